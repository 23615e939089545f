/- QIf QIl -/
import Derived.Test.YtcaahdjhbmmcnaaGreatDoorYQI
import Derived.Test.YtcaahdjhbmmcnaaGreatDoorYQD
set_option maxRecDepth 100000
set_option maxHeartbeats 16000000
set_option linter.unusedSimpArgs false
set_option linter.unusedVariables false
namespace Go.Proofs.YtcaahdjhbmmcnaaGreatDoor
open Go.ChangeShapes Go.WideShapes Go.ChangeAt Go.RowKit
theorem placeV_eq (r:Pl):placeVal r=.agg #[.int .i64 r.1,.int .i64 r.2.1,.int .i64 r.2.2.1,.int .i64 r.2.2.2]:=rfl
theorem implFind {w:World} {ra:Option Addr} {rn rc b m:Nat} {G:List UInt8->Option Pl} (h:TabIs w b m G) (n:List UInt8) (hn:n.length<=281474976710656) :
  Rt 31 #[.agg #[.slice ra rn rc,.map (some b)],.string ⟨n.toArray⟩] w (placeVal ((G n).getD (0,-1,0,-1))):=by
 have HB:=Ld (alloc_any w (.cells #[.slice ra rn rc,.map (some b)] 61));have HB1:=Ld (HB.out.alloc HB.out.size (.cells #[.int .i64 0,.int .i64 0,.int .i64 0,.int .i64 0] 58));have L:=(h.below HB1.out).look (s:=n) (by unfold maxLen;omega);have c1:((w.alloc (.cells #[.slice ra rn rc,.map (some b)] 61)).alloc (.cells #[.int .i64 0,.int .i64 0,.int .i64 0,.int .i64 0] 58)).cell? ⟨w.heap.size,1,none⟩=some (.map (some b)):=by
  rw [((bR _ _).alloc (nR _) _).cell (p:=⟨w.heap.size,1,none⟩) (by simp)];exact World.news_of_block (cs:=#[.slice ra rn rc,.map (some b)]) (t:=61) (fr:=(0,0)) (heap_alloc_new w _) 1 _ rfl
 clear h;cases hG:G n with
 | none =>
  rw [hG] at L;simp only [placeV_eq,Option.getD_none,Option.isSome_none] at L |-;clear hG;go_enter Tryz.func31,Tryz.ntmps31;go_wp2;obtain ⟨a0,a1,a2,a3⟩:=placeBox2 (w.alloc (.cells #[.slice ra rn rc,.map (some b)] 61)) ((0:Int),(-1:Int),(0:Int),(-1:Int)) (.cells #[.int .i64 0,.int .i64 0,.int .i64 0,.int .i64 0] 58) (n:=w.heap.size+1) (by simp);refine bodyPost_ret (v:=placeVal ((0:Int),(-1:Int),(0:Int),(-1:Int))) (by simp [results,Tryz.results31,go_sem,a0,a1,a2,a3,placeVal]) rfl ⟨rfl,(HB.out.alloc HB.out.size _).alloc (HB.out.alloc HB.out.size _).size _⟩
 | some r =>
  obtain ⟨r0,r1,r2,r3⟩:=r;rw [hG] at L;simp only [placeV_eq,Option.getD_some,Option.isSome_some] at L |-;clear hG;go_enter Tryz.func31,Tryz.ntmps31;go_wp2;obtain ⟨a0,a1,a2,a3⟩:=placeBox2 (w.alloc (.cells #[.slice ra rn rc,.map (some b)] 61)) (r0,r1,r2,r3) (.cells #[.int .i64 r0,.int .i64 r1,.int .i64 r2,.int .i64 r3] 58) (n:=w.heap.size+1) (by simp);refine bodyPost_ret (v:=placeVal (r0,r1,r2,r3)) (by simp [results,Tryz.results31,go_sem,a0,a1,a2,a3,placeVal]) rfl ⟨rfl,(HB.out.alloc HB.out.size _).alloc (HB.out.alloc HB.out.size _).size _⟩
theorem implFoundIn {w:World} {B:Nat} {v:Value} {env:List En} (h:EnvIs w B v env) (hs:EnvSmall env) (hr:EnvRng env) (hv:Vars w) (hm:MaxLenInt w) (n:List UInt8) (hn:n.length<=281474976710656) :
  Rt 11 #[v,.string ⟨n.toArray⟩] w (findRes (foundIn env n)):=by
 obtain ⟨ra,rc,rfl⟩:=h.len;have f1:=Ld (implEnvOf h hs hr hv hm);have HE:=tab_found (env:=env) n;unfold fnd4 at HE;generalize foundIn env n=r at HE |-;generalize levelsFor env n=r3 at HE;obtain ⟨r0,r1,r2⟩:=r;simp only at HE;unfold findRes;clear h hs hr hv hm;go_enter Tryz.func11,Tryz.ntmps11;go_wp2_with fail;(with_reducible refine f1.out.mono ?_);rintro e w1 ⟨b,rfl,ht,hb1⟩;have f2:=Ld (implFind (ra:=ra) (rn:=env.length) (rc:=rc) ht n hn);rw [HE] at f2;simp only [placeV_eq] at f2;have HB1:=Ld hb1;clear f1 HE hb1 ht;go_wp2_with fail;(with_reducible refine mo f2.out fun w2 hb2=>?_);have HB2:=bt HB1.out hb2;clear f2 hb2;obtain ⟨x0,x1,x2,x3⟩:=placeBox w2 (r0,r1,r2,r3) (n:=w2.heap.size) rfl;go_wp2;go_quiet (fail);go_wp2;refine bodyPost_ret (v:=.tuple #[.int .i64 r0,.int .i64 r1,.int .i64 r2]) (by simp [results,Tryz.results11,go_sem]) rfl ⟨rfl,below_drewN (HB2.out.alloc HB2.out.size _) _⟩
theorem implLevelsFor {w:World} {B:Nat} {v:Value} {env:List En} (h:EnvIs w B v env) (hs:EnvSmall env) (hr:EnvRng env) (hv:Vars w) (hm:MaxLenInt w) (n:List UInt8) (hn:n.length<=281474976710656) :
  Rt 14 #[v,.string ⟨n.toArray⟩] w (.int .i64 (levelsFor env n)):=by
 obtain ⟨ra,rc,rfl⟩:=h.len;have f1:=Ld (implEnvOf h hs hr hv hm);have HE:=tab_found (env:=env) n;unfold fnd4 at HE;generalize levelsFor env n=r3 at HE |-;generalize foundIn env n=r at HE;obtain ⟨r0,r1,r2⟩:=r;simp only at HE;clear h hs hr hv hm;have hfield:∀ (W:World),(Instr.field 58 (.agg #[.int .i64 r0,.int .i64 r1,.int .i64 r2,.int .i64 r3]) 3).run Tryz.prog W=.ok (.int .i64 r3) W:=fun W=>by kernel_rfl
 go_enter Tryz.func14,Tryz.ntmps14;go_wp2_with fail;(with_reducible refine f1.out.mono ?_);rintro e w1 ⟨b,rfl,ht,hb1⟩;have f2:=Ld (implFind (ra:=ra) (rn:=env.length) (rc:=rc) ht n hn);rw [HE] at f2;simp only [placeV_eq] at f2;have HB1:=Ld hb1;clear f1 HE hb1 ht;go_wp2_with fail;(with_reducible refine mo f2.out fun w2 hb2=>?_);have HB2:=bt HB1.out hb2;clear f2 hb2;go_wp2;go_ret;exact ⟨rfl,HB2.out⟩
end Go.Proofs.YtcaahdjhbmmcnaaGreatDoor
