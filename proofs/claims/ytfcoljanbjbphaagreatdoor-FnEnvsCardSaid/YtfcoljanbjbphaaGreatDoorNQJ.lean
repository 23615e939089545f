/- QIf ShelfK QIk QIl QIy QIv -/
import Derived.Shelf.SlIter.Nil
import Derived.Shelf.SortM.Plain
import Derived.Shelf.SortM.SortNone
import Derived.Ground.GgzProg
import Derived.Ground.SlgmProg
import Derived.Test.YtfcoljanbjbphaaGreatDoorProg
import Derived.Test.YtfcoljanbjbphaaGreatDoorNQI
import Derived.Test.YtfcoljanbjbphaaGreatDoorNQD
import Derived.Test.YtfcoljanbjbphaaGreatDoorNKQ
import Derived.Test.YtfcoljanbjbphaaGreatDoorNZQPz
import Derived.Test.YtfcoljanbjbphaaGreatDoorNK6
import Derived.Test.YtfcoljanbjbphaaGreatDoorNHL
set_option maxRecDepth 100000
set_option maxHeartbeats 16000000
set_option linter.unusedSimpArgs false
set_option linter.unusedVariables false
namespace Go.Proofs.YtfcoljanbjbphaaGreatDoor
open Go.ChangeShapes Go.WideShapes Go.ChangeAt Go.RowKit
theorem lN{env:List En}(n:List UInt8):(vW env env.length 0 n).getD (0,-1,0)=yG env n:=(tabAt_end n).symm
theorem sN(r:Int × Int × Int):yP r=.agg #[.int .i64 r.1,.int .i64 r.2.1,.int .i64 r.2.2]:=rfl
theorem gG{w:World}{ra:Option Addr}{rn rc b m:Nat}{G:List UInt8->Option (Int × Int × Int)}(h:TabIs w b m G)(n:List UInt8)(hn:n.length<=281474976710656) :
  Rt 24 #[.agg #[.slice ra rn rc,.map (some b)],.string ⟨n.toArray⟩] w (yP ((G n).getD (0,-1,0))):=by
 have HB:=Ld (zE w (.cells #[.slice ra rn rc,.map (some b)] 51));have HB1:=Ld (HB.out.alloc HB.out.size (.cells #[.int .i64 0,.int .i64 0,.int .i64 0] 49));have L:=(h.below HB1.out).look (s:=n) (by unfold maxLen;omega);have c1:((w.alloc (.cells #[.slice ra rn rc,.map (some b)] 51)).alloc (.cells #[.int .i64 0,.int .i64 0,.int .i64 0] 49)).cell? ⟨w.heap.size,1,none⟩=some (.map (some b)):=by
  rw[((bR _ _).alloc (nR _) _).cell (p:=⟨w.heap.size,1,none⟩) (by simp)];exact World.news_of_block (cs:=#[.slice ra rn rc,.map (some b)]) (t:=51) (fr:=(0,0)) (heap_alloc_new w _) 1 _ rfl
 clear h;cases hG:G n with
|none =>
  rw[hG] at L;simp only[sN,Option.getD_none,Option.isSome_none] at L |-;clear hG;go_enter Tryz.func24,Tryz.ntmps24;go_wp2;obtain⟨a0,a1,a2⟩:=placeBox2 (w.alloc (.cells #[.slice ra rn rc,.map (some b)] 51)) ((0:Int),(-1:Int),(0:Int)) (.cells #[.int .i64 0,.int .i64 0,.int .i64 0] 49) (n:=w.heap.size+1) (by simp);refine bodyPost_ret (v:=yP ((0:Int),(-1:Int),(0:Int))) (by simp[results,Tryz.results24,go_sem,a0,a1,a2,yP]) rfl ⟨rfl,(HB.out.alloc HB.out.size _).alloc (HB.out.alloc HB.out.size _).size _⟩
|some r =>
  obtain⟨r0,r1,r2⟩:=r;rw[hG] at L;simp only[sN,Option.getD_some,Option.isSome_some] at L |-;clear hG;go_enter Tryz.func24,Tryz.ntmps24;go_wp2;obtain⟨a0,a1,a2⟩:=placeBox2 (w.alloc (.cells #[.slice ra rn rc,.map (some b)] 51)) (r0,r1,r2) (.cells #[.int .i64 r0,.int .i64 r1,.int .i64 r2] 49) (n:=w.heap.size+1) (by simp);refine bodyPost_ret (v:=yP (r0,r1,r2)) (by simp[results,Tryz.results24,go_sem,a0,a1,a2,yP]) rfl ⟨rfl,(HB.out.alloc HB.out.size _).alloc (HB.out.alloc HB.out.size _).size _⟩
theorem implFoundIn{w:World}{B:Nat}{v:Value}{env:List En}(h:uI w B v env)(hs:xW env)(hr:mJ env)(hv:Vars w)(hm:MaxLenInt w)(n:List UInt8)(hn:n.length<=281474976710656) :
  Rt 9 #[v,.string ⟨n.toArray⟩] w (uD (yG env n)):=by
 obtain⟨ra,rc,rfl⟩:=h.len;have f1:=Ld (nF h hs hr hv hm);have HE:=lN (env:=env) n;generalize yG env n=r at HE |-;obtain⟨r0,r1,r2⟩:=r;unfold uD;clear h hs hr hv hm;go_enter Tryz.func9,Tryz.ntmps9;go_wp2_with fail;(with_reducible refine f1.out.mono ?_);rintro e w1 ⟨b,rfl,ht,hb1⟩;have f2:=Ld (gG (ra:=ra) (rn:=env.length) (rc:=rc) ht n hn);rw[HE] at f2;simp only[sN] at f2;have HB1:=Ld hb1;clear f1 HE hb1 ht;go_wp2_with fail;(with_reducible refine mo f2.out fun w2 hb2=>?_);have HB2:=bt HB1.out hb2;clear f2 hb2;obtain⟨x0,x1,x2⟩:=nV w2 (r0,r1,r2) (n:=w2.heap.size) rfl;go_wp2;go_quiet (fail);go_wp2;refine bodyPost_ret (v:=.tuple #[.int .i64 r0,.int .i64 r1,.int .i64 r2]) (by simp[results,Tryz.results9,go_sem]) rfl ⟨rfl,zG (HB2.out.alloc HB2.out.size _) _⟩
end Go.Proofs.YtfcoljanbjbphaaGreatDoor
namespace Go.Proofs
open Go.Shelf
def Tryz.keys42_ren:Go.Shelf.Ren:=⟨fun|7=>17|10=>35|n=>n,fun|23=>47|26=>9|3=>49|28=>45|0=>0|27=>44|33=>70|4=>4|n=>n,fun|n=>n⟩
theorem Tryz.keys42:Go.Proofs.SlLaysZ.n7 Tryz.prog Tryz.keys42_ren:={
 mixed:=by kernel_rfl
 f7:=⟨Tryz.f17.name,by decide,Tryz.func17.trans (congrArg some (by kernel_rfl))⟩
 f10:=⟨Tryz.f35.name,by decide,Tryz.func35.trans (congrArg some (by kernel_rfl))⟩
 t0:=Tryz.underlying0
 a0:=Tryz.isAgg0
 z0:=Tryz.sizeOf0
 v0:=Tryz.zeroValue0
 t4:=Tryz.underlying4
 a4:=Tryz.isAgg4
 z4:=Tryz.sizeOf4
 v4:=Tryz.zeroValue4
 t23:=Tryz.underlying47
 a23:=Tryz.isAgg47
 z23:=Tryz.sizeOf47
 v23:=Tryz.zeroValue47
 t26:=Tryz.underlying9
 a26:=Tryz.isAgg9
 z26:=Tryz.sizeOf9
 v26:=Tryz.zeroValue9
 t27:=Tryz.underlying44
 a27:=Tryz.isAgg44
 z27:=Tryz.sizeOf44
 v27:=Tryz.zeroValue44
 t28:=Tryz.underlying45
 a28:=Tryz.isAgg45
 z28:=Tryz.sizeOf45
 v28:=Tryz.zeroValue45
 t33:=Tryz.underlying70
 a33:=Tryz.isAgg70
 z33:=Tryz.sizeOf70
 v33:=Tryz.zeroValue70 }
def Tryz.sorted41_ren:Go.Shelf.Ren:=⟨fun|6=>16|8=>33|9=>34|11=>49|13=>51|12=>50|23=>85|24=>86|14=>76|15=>77|16=>78|17=>79|18=>80|19=>81|20=>82|21=>83|22=>84|25=>121|26=>122|27=>123|28=>124|29=>125|30=>126|31=>155|n=>n,fun|26=>9|28=>45|24=>26|0=>0|3=>3|37=>78|48=>142|50=>144|4=>4|40=>134|39=>133|45=>139|5=>5|9=>9|51=>164|55=>168|57=>196|58=>193|33=>70|n=>n,fun|n=>n⟩
theorem Tryz.sorted41:Go.Proofs.SlLaysZ.n6 Tryz.prog Tryz.sorted41_ren:={
 mixed:=by kernel_rfl
 f6:=⟨Tryz.f16.name,by decide,Tryz.func16.trans (congrArg some (by kernel_rfl))⟩
 f8:=⟨Tryz.f33.name,by decide,Tryz.func33.trans (congrArg some (by kernel_rfl))⟩
 f11:=⟨Tryz.f49.name,by decide,Tryz.func49.trans (congrArg some (by kernel_rfl))⟩
 t0:=Tryz.underlying0
 a0:=Tryz.isAgg0
 z0:=Tryz.sizeOf0
 v0:=Tryz.zeroValue0
 t24:=Tryz.underlying26
 a24:=Tryz.isAgg26
 z24:=Tryz.sizeOf26
 v24:=Tryz.zeroValue26
 t26:=Tryz.underlying9
 a26:=Tryz.isAgg9
 z26:=Tryz.sizeOf9
 v26:=Tryz.zeroValue9
 t28:=Tryz.underlying45
 a28:=Tryz.isAgg45
 z28:=Tryz.sizeOf45
 v28:=Tryz.zeroValue45
 i26:=by kernel_rfl }
def Tryz.sort65_ren:Go.Shelf.Ren:=⟨fun|6=>34|8=>51|9=>50|19=>85|20=>86|21=>76|22=>77|23=>78|24=>79|25=>80|26=>81|27=>82|28=>83|29=>84|36=>121|31=>122|32=>123|37=>124|38=>125|39=>126|41=>155|n=>n,fun|27=>26|29=>9|3=>3|32=>78|26=>26|0=>0|44=>142|46=>144|4=>4|36=>134|35=>133|41=>139|5=>5|9=>9|53=>164|57=>168|63=>196|64=>193|n=>n,fun|n=>n⟩
theorem Tryz.sort65:Go.Proofs.SlLaysM.n6 Tryz.prog Tryz.sort65_ren:={
 mixed:=by kernel_rfl
 f6:=⟨Tryz.f34.name,by decide,Tryz.func34.trans (congrArg some (by kernel_rfl))⟩
 f8:=Tryz.func51.trans (congrArg some (by kernel_rfl))
 f9:=⟨Tryz.f50.name,by decide,Tryz.func50.trans (congrArg some (by kernel_rfl))⟩
 f19:=Tryz.func85.trans (congrArg some (by kernel_rfl))
 f20:=Tryz.func86.trans (congrArg some (by kernel_rfl))
 f21:=⟨Tryz.f76.name,by decide,Tryz.func76.trans (congrArg some (by kernel_rfl))⟩
 f22:=⟨Tryz.f77.name,by decide,Tryz.func77.trans (congrArg some (by kernel_rfl))⟩
 f23:=⟨Tryz.f78.name,by decide,Tryz.func78.trans (congrArg some (by kernel_rfl))⟩
 f24:=⟨Tryz.f79.name,by decide,Tryz.func79.trans (congrArg some (by kernel_rfl))⟩
 f25:=⟨Tryz.f80.name,by decide,Tryz.func80.trans (congrArg some (by kernel_rfl))⟩
 f26:=⟨Tryz.f81.name,by decide,Tryz.func81.trans (congrArg some (by kernel_rfl))⟩
 f27:=⟨Tryz.f82.name,by decide,Tryz.func82.trans (congrArg some (by kernel_rfl))⟩
 f28:=⟨Tryz.f83.name,by decide,Tryz.func83.trans (congrArg some (by kernel_rfl))⟩
 f29:=⟨Tryz.f84.name,by decide,Tryz.func84.trans (congrArg some (by kernel_rfl))⟩
 f31:=Tryz.func122.trans (congrArg some (by kernel_rfl))
 f32:=Tryz.func123.trans (congrArg some (by kernel_rfl))
 f36:=⟨Tryz.f121.name,by decide,Tryz.func121.trans (congrArg some (by kernel_rfl))⟩
 f37:=⟨Tryz.f124.name,by decide,Tryz.func124.trans (congrArg some (by kernel_rfl))⟩
 f38:=⟨Tryz.f125.name,by decide,Tryz.func125.trans (congrArg some (by kernel_rfl))⟩
 f39:=⟨Tryz.f126.name,by decide,Tryz.func126.trans (congrArg some (by kernel_rfl))⟩
 f41:=⟨Tryz.f155.name,by decide,Tryz.func155.trans (congrArg some (by kernel_rfl))⟩
 t0:=Tryz.underlying0
 a0:=Tryz.isAgg0
 z0:=Tryz.sizeOf0
 v0:=Tryz.zeroValue0
 t3:=Tryz.underlying3
 a3:=Tryz.isAgg3
 z3:=Tryz.sizeOf3
 v3:=Tryz.zeroValue3
 t4:=Tryz.underlying4
 a4:=Tryz.isAgg4
 z4:=Tryz.sizeOf4
 v4:=Tryz.zeroValue4
 t5:=Tryz.underlying5
 a5:=Tryz.isAgg5
 z5:=Tryz.sizeOf5
 v5:=Tryz.zeroValue5
 t9:=Tryz.underlying9
 a9:=Tryz.isAgg9
 z9:=Tryz.sizeOf9
 v9:=Tryz.zeroValue9
 t26:=Tryz.underlying26
 a26:=Tryz.isAgg26
 z26:=Tryz.sizeOf26
 v26:=Tryz.zeroValue26
 t27:=Tryz.underlying26
 a27:=Tryz.isAgg26
 z27:=Tryz.sizeOf26
 v27:=Tryz.zeroValue26
 t29:=Tryz.underlying9
 a29:=Tryz.isAgg9
 z29:=Tryz.sizeOf9
 v29:=Tryz.zeroValue9
 t32:=Tryz.underlying78
 a32:=Tryz.isAgg78
 z32:=Tryz.sizeOf78
 v32:=Tryz.zeroValue78
 t35:=Tryz.underlying133
 a35:=Tryz.isAgg133
 z35:=Tryz.sizeOf133
 v35:=Tryz.zeroValue133
 t36:=Tryz.underlying134
 a36:=Tryz.isAgg134
 z36:=Tryz.sizeOf134
 v36:=Tryz.zeroValue134
 t41:=Tryz.underlying139
 a41:=Tryz.isAgg139
 z41:=Tryz.sizeOf139
 v41:=Tryz.zeroValue139
 t44:=Tryz.underlying142
 a44:=Tryz.isAgg142
 z44:=Tryz.sizeOf142
 v44:=Tryz.zeroValue142
 t46:=Tryz.underlying144
 a46:=Tryz.isAgg144
 z46:=Tryz.sizeOf144
 v46:=Tryz.zeroValue144
 t53:=Tryz.underlying164
 a53:=Tryz.isAgg164
 z53:=Tryz.sizeOf164
 v53:=Tryz.zeroValue164
 t57:=Tryz.underlying168
 a57:=Tryz.isAgg168
 z57:=Tryz.sizeOf168
 v57:=Tryz.zeroValue168
 t63:=Tryz.underlying196
 a63:=Tryz.isAgg196
 z63:=Tryz.sizeOf196
 v63:=Tryz.zeroValue196
 t64:=Tryz.underlying193
 a64:=Tryz.isAgg193
 z64:=Tryz.sizeOf193
 v64:=Tryz.zeroValue193 }
end Go.Proofs
namespace Go.Proofs.YtfcoljanbjbphaaGreatDoor
open Go.ChangeShapes Go.WideShapes Go.ChangeAt Go.RowKit Go.Maps Go.Sort
theorem sortsAt (m:Nat):AnyZ.SortsIn Tryz.prog Tryz.sorted41_ren Fence.wide m :=
  ⟨fun blk off cap ss W hH hblk hsz=>callsIn_wide.2 (AnyM.slices_Sort_string Tryz.sort65 blk off cap ss W hH hblk hsz),
   fun p cap W=>callsIn_wide.2 (AnyM.slices_Sort_string_none Tryz.sort65 p cap W)⟩
theorem keysAt (mb:Option Nat) (W:World):Calls Tryz.prog 17 #[.map mb] W fun e w'=>e=.returned (.func (.func 35) #[] #[.pointer (some ⟨W.heap.size,0,none⟩)])/\w'=W.alloc (.cells #[.map mb] 47) :=
  callsIn_wide.1 (AnyZ.keys_in Tryz.keys42 Fence.wide 5 trivial rfl mb W)
theorem sortedAt {H:Type} (b nn:Nat) (D0:DataW H) (R:Value->Option (DataW H × List MemPlace)) (w:World) (hown:w.ownsMap Tryz.prog 9 R b nn D0) (hmax:Maps.size D0<=maxLen) (hbytes:Maps.size D0*16<=140737488355328) :
    Calls Tryz.prog 16 #[.func (.func 35) #[] #[.pointer (some ⟨w.heap.size,0,none⟩)]] (w.alloc (.cells #[.map (some b)] 47)) fun e w'=>∃ (v:Value) (ss:List (List UInt8)),e=.returned v/\ss.Perm (strKeys D0) /\
      w'.ownsRow (w.alloc (.cells #[.map (some b)] 47)).heap.size 9 1 v ss.length ((ss.mergeSort (fun x y=>decide (x<=y))).map encStr)/\(v=.slice none 0 0↔ss=[])/\Below (w.alloc (.cells #[.map (some b)] 47)).heap.size (w.alloc (.cells #[.map (some b)] 47)) w':=by
  have hbl:=hown.lt
  have hseq:SeqGives Fence.wide 2 Tryz.prog 35 #[.pointer (some ⟨w.heap.size,0,none⟩)] encStr (fun ss=>ss.Perm (strKeys D0)) (Maps.size D0) (w.alloc (.cells #[.map (some b)] 47)) :=
    AnyZ.keys_gives (ρ:=Tryz.keys42_ren) { Tryz.keys42 with } Fence.wide _ trivial rfl (by omega) w.heap.size b nn D0 _ (by simp) (by simp) (by
      obtain ⟨es,clock,hb,Ft,hs,hD⟩:=hown
      exact ⟨es,clock,(Below.heap_alloc _ _ b hbl).trans hb,Ft,hs,hD⟩)
  exact callsIn_wide.1 (AnyZ.sorted_in Tryz.sorted41 Fence.wide 5 trivial trivial trivial trivial rfl (by omega) (sortsAt _) (enters_of Tryz.func34 (by kernel_rfl) rfl) 35 #[.pointer (some ⟨w.heap.size,0,none⟩)] trivial (enters_of Tryz.func35 (by kernel_rfl) rfl) _ _ hmax hbytes _ hseq)
theorem TabIs.keys {w:World} {b m:Nat} {G:List UInt8->Option (Int × Int × Int)} (h:TabIs w b m G) {l:List (List UInt8)} (hl:∀ s,(G s).isSome=true↔s∈l) :
    ∃ D:DataW Unit,w.ownsMap Tryz.prog 9 rI b m D/\Maps.size D<=m/\∀ ss:List (List UInt8),ss.Perm (strKeys D)->ss.mergeSort (fun x y=>decide (x<=y))=srt l:=by
  obtain ⟨D,h1,h2⟩:=h
  refine ⟨D,h1,h1.size_le,fun ss hp=>?_⟩
  obtain ⟨ha,hm,_⟩:=srt_spec l.length l (nR _)
  obtain ⟨es,rfl,hpw⟩:=h1.tidy strLaw
  obtain ⟨es',he,hk⟩:=h1.keysOf
  obtain rfl:es=es':=by injection he
  have hnd:(srt l).Nodup:=ha.imp (fun h=>lt_ne h)
  have hq:(srt l).Perm (strKeys (.map es)):=perm_strKeys hpw (fun p hp=>by
    obtain ⟨key,hkey⟩:=hk p hp
    obtain ⟨x,_,hx,_⟩:=Maps.keyOf_str Tryz.underlying9 hkey
    exact ⟨x,hx⟩) hnd (fun x=>by rw [hm x,← hl x,← (h2 x).1])
  rw [show (fun x y:List UInt8=>decide (x<=y))=leB from rfl,mergeSort_of_perm (hp.trans hq.symm)]
  refine List.mergeSort_of_pairwise (ha.imp fun h=>?_)
  simp only [leB,decide_eq_true_eq]
  exact List.le_of_lt h
theorem implKnownE {w:World} {B:Nat} {v:Value} {env:List En} (h:uI w B v env) (hs:xW env) (hr:mJ env) (hv:Vars w) (hm:MaxLenInt w) (hl:(zV env).length<=1000000) :
    Calls Tryz.prog 6 #[v] w (mB (tW env) w):=by
  obtain ⟨ra,rc,rfl⟩:=h.len
  have f1:=Ld (nF h hs hr hv hm)
  have F2:=Ld fun (W:World) (b:Nat) (ht:TabIs W b (zV env).length (vW env env.length 0))=>ht.keys (l:=zV env) (fun s=>tabAt_known s)
  clear h hs hr hv hm
  unfold mB
  have hfield:∀ (W:World) (m:Option Nat),(Instr.field 51 (.agg #[.slice ra env.length rc,.map m]) 1).run Tryz.prog W=.ok (.map m) W:=fun W m=>by kernel_rfl
  go_enter Tryz.func6,Tryz.ntmps6
  go_wp2_with fail
  (with_reducible refine f1.out.mono ?_);rintro e w1 ⟨b,rfl,ht,hb1⟩
  obtain ⟨D,hown,hsz,hk⟩:=F2.out _ b ht
  have f2:=Ld (keysAt (some b) w1)
  have f3:=Ld (sortedAt b _ D rI w1 hown (by unfold maxLen;omega) (by omega))
  have HK:=Ld hk
  have HB1:=Ld hb1
  clear f1 F2 hb1 ht hown hk
  go_wp2_with fail
  (with_reducible refine mo f2.out ?_);rintro w2 rfl
  go_wp2_with fail
  (with_reducible refine f3.out.mono ?_);rintro e w3 ⟨v3,ss,rfl,hp,hrow,_,hb3⟩
  have HV:Hid (w3.ownsRow w.heap.size 9 1 v3 (tW env).length ((tW env).map sv)):=by
    have hlen:ss.length=(tW env).length:=by
      rw [show tW env=srt (zV env) from rfl,← HK.out ss hp,List.length_mergeSort]
    rw [Hid,← hlen,show tW env=srt (zV env) from rfl,← HK.out ss hp]
    exact yF hrow (by have:=HB1.out.size;simp;omega)
  have HB3:=Ld ((HB1.out.alloc HB1.out.size _).trans (hb3.mono (HB1.out.alloc HB1.out.size _).size))
  clear f2 f3 hp hrow hb3 HK
  go_wp2
  go_ret
  exact ⟨_,rfl,HV.out,HB3.out⟩
end Go.Proofs.YtfcoljanbjbphaaGreatDoor
namespace Go.Proofs.YtfcoljanbjbphaaGreatDoor
open Go.ChangeShapes Go.WideShapes Go.ChangeAt Go.RowKit
theorem mX{w:World}{B:Nat}{ra:Option Addr}{rn rc b m:Nat}{env:List En}(h:uI w B (.slice ra rn rc) env)(hs:xW env)(hr:mJ env)(hv:Vars w)(hm:MaxLenInt w)(ht:TabIs w b m (vW env env.length 0))(n:List UInt8)(hn:n.length<=281474976710656) :
  Rt 25 #[.agg #[.slice ra rn rc,.map (some b)],.string ⟨n.toArray⟩] w (.int .i64 (tL env n)):=by
 have HB:=Ld (zE w (.cells #[.slice ra rn rc,.map (some b)] 51));have f1:=Ld (gG (ra:=ra) (rn:=rn) (rc:=rc) (ht.below HB.out) n hn);rw[lN] at f1;have HX:=Ld (envBox (w:=w) (s:=.slice ra rn rc) (m:=.map (some b)));have hP:=nG env n;have HE:Hid (tL env n=uM env (yG env n)):=rfl;obtain⟨x0,x1⟩:=HX.out _ (bR _ _);generalize tL env n=lv at HE |-;generalize yG env n=r at f1 HE hP;clear ht;rcases hP with rfl|⟨j,e,he,hok,hj,hk⟩
 ·have HF:Hid (lv=-1):=(by rw[Hid,HE.out];rfl);simp only[sN] at f1;clear h HE hs hr;go_enter Tryz.func25,Tryz.ntmps25;go_wp2_with fail;(with_reducible refine mo f1.out fun w1 hb1=>?_);have HB1:=bt HB.out hb1;clear hb1 f1;go_wp2;go_ret;rw[HF.out];exact⟨rfl,HB1.out.alloc HB1.out.size _⟩
 have hkd:=oB hok;have h0:r.1≠0:=by
  rcases hk with h|h|h
  ·rw[h.1];omega
  ·rw[h.1];decide
  ·rw[h.1];decide
 have HM:=Ld (manyOf_at he hj h0);have hsm:=(hs.2 _ (List.mem_of_getElem? he)).1;have hrg:=hr _ (List.mem_of_getElem? he);rw[← HE.out] at HM;obtain⟨g,cap,ua,uc,e1,hjl,hox,HC⟩:=gH h he;cases e1;obtain⟨what,ri,rk⟩:=r;simp only at h0 hj HM;subst hj;simp only[sN] at f1;have HCx:=Ld HC;have t1:=zn j;have t2:(j:Int)<(env.length:Int):=by omega
 have q0:(what==0)=false:=by rw[bF];exact h0
 have HO:=Ld hox;have HRL:=Ld fun (W:World) (hW:Below w.heap.size w W)=>implRecLevels (zA hox hW) hsm ⟨hrg.1,hrg.2⟩ (hv.below hW) (hm.below hW);clear h HE hs hr he hok hk hkd HC hox hsm hrg hv hm h0;obtain⟨⟨kd,nm,ps,fl,ty,vl,cs⟩,ls⟩:=e;have hval:=hJ kd nm ps fl ty vl cs (.slice ua cs.length uc);simp only[hval] at HCx HRL HM HO;by_cases h6:what=6
 ·subst h6;rw[iP rfl] at HM;go_enter Tryz.func25,Tryz.ntmps25;go_wp2_with fail;(with_reducible refine mo f1.out fun w1 hb1=>?_);have HB1:=bt HB.out hb1;have HB2:=Ld (HB1.out.alloc HB1.out.size (.cells #[.int .i64 6,.int .i64 j,.int .i64 rk] 49));obtain⟨y0,y1⟩:=HX.out _ (hb1.alloc hb1.size (.cells #[.int .i64 6,.int .i64 j,.int .i64 rk] 49));obtain⟨c0,c1,c2,c3,c4,c5,c6⟩:=HCx.out _ HB2.out;clear hb1 f1 HX HCx x0 x1;have f2:=Ld (HRL.out _ HB2.out);go_wp2_with fail;(with_reducible refine mo f2.out fun w2 hb2=>?_);have HB3:=bt HB2.out hb2;clear f2 hb2 HRL;rw[← HM.out];go_wp2;go_ret;exact⟨rfl,HB3.out⟩
 ·have q6:(what==6)=false:=(by rw[bF];exact h6);rw[iN h6] at HM;go_enter Tryz.func25,Tryz.ntmps25;go_wp2_with fail;(with_reducible refine mo f1.out fun w1 hb1=>?_);have HB1:=bt HB.out hb1;have HB2:=Ld (HB1.out.alloc HB1.out.size (.cells #[.int .i64 what,.int .i64 j,.int .i64 rk] 49));obtain⟨y0,y1⟩:=HX.out _ (hb1.alloc hb1.size (.cells #[.int .i64 what,.int .i64 j,.int .i64 rk] 49));obtain⟨c0,c1,c2,c3,c4,c5,c6⟩:=HCx.out _ HB2.out;clear hb1 f1 HX HCx x0 x1;clear HRL;go_wp2;go_ret;rw[HM.out];exact⟨rfl,HB2.out⟩
theorem implLevelsFor{w:World}{B:Nat}{v:Value}{env:List En}(h:uI w B v env)(hs:xW env)(hr:mJ env)(hv:Vars w)(hm:MaxLenInt w)(n:List UInt8)(hn:n.length<=281474976710656) :
  Rt 10 #[v,.string ⟨n.toArray⟩] w (.int .i64 (tL env n)):=by
 obtain⟨ra,rc,rfl⟩:=h.len;have f1:=Ld (nF h hs hr hv hm);have F2:=Ld fun (W:World) (hW:Below w.heap.size w W) (b:Nat) (ht:TabIs W b (zV env).length (vW env env.length 0))=>mX (h.below hW) hs hr (hv.below hW) (hm.below hW) ht n hn;clear h hs hr hv hm;go_enter Tryz.func10,Tryz.ntmps10;go_wp2_with fail;(with_reducible refine f1.out.mono ?_);rintro e w1 ⟨b,rfl,ht,hb1⟩;have f2:=Ld (F2.out _ hb1 b ht);have HB1:=Ld hb1;clear f1 F2 hb1 ht;go_wp2_with fail;(with_reducible refine mo f2.out fun w2 hb2=>?_);have HB2:=bt HB1.out hb2;clear f2 hb2;go_wp2;go_ret;exact⟨rfl,HB2.out⟩
theorem termLevels_nil(ls:List (List UInt8)):yD [] ls=none:=by
 unfold yD
 rw[yY fun t h=>by
  have:=termOk_len (uV.2 ⟨t,h⟩);simp at this]
noncomputable def fJ (env:List En) (r:Int × Int × Int):List UInt8:=(fI env r).getD []
theorem rawAt_len{env:List En}(hs:xW env){r:Int × Int × Int}(hP:FoundP env r):(fJ env r).length<=1048576:=by
 unfold fJ;rcases hP with rfl|⟨j,e,he,hok,hj,hk⟩
 ·cases hq:fI env (0,-1,0) with
 |none=>simp
 |some t =>
   unfold fI at hq;split at hq
   ·rename_i e he;rw[iN (by decide),iN (by decide)] at hq;cases hq;exact(hs.2 _ (List.mem_of_getElem? he)).1.type
   ·cases hq
 ·have hsm:=(hs.2 _ (List.mem_of_getElem? he)).1;rw[rawOf_at he hj];split
  ·cases hc:e.1.ctors[r.2.2.toNat]? with
  |none=>simp
  |some c=>exact(hsm.each c (List.mem_of_getElem? hc)).2
  ·split
   ·cases hq:uJ e.1 with
   |none=>simp
   |some t=>have:=recType_len hq;simp only[Option.getD_some];omega
   ·exact hsm.type
theorem implTypeAt{w:World}{B:Nat}{ra:Option Addr}{rn rc:Nat}{env:List En}(h:uI w B (.slice ra rn rc) env)(hs:xW env)(hr:mJ env)(hv:Vars w)(hm:MaxLenInt w){b:Nat}{r:Int × Int × Int}(hP:FoundP env r)(h0:r.1≠0) :
  Rt 41 #[.agg #[.slice ra rn rc,.map (some b)],yP r] w (.string ⟨(fJ env r).toArray⟩):=by
 rcases hP with rfl|⟨j,e,he,hok,hj,hk⟩
 ·exact absurd rfl h0
 have hsm:=(hs.2 _ (List.mem_of_getElem? he)).1;have hrg:=hr _ (List.mem_of_getElem? he);obtain⟨g,cap,ua,uc,e1,hjl,hox,HC⟩:=gH h he;cases e1;have hraw:=rawOf_at he hj;have HR:Hid (fJ env r=(if r.1=5 then (e.1.ctors[r.2.2.toNat]?).map (fun c=>c.2) else if r.1=6 then uJ e.1 else some e.1.type).getD []):=by rw[Hid,fJ,hraw]
 generalize fJ env r=rw0 at HR |-;have hkd:=oB hok;obtain⟨what,ri,rk⟩:=r;simp only at hj hk h0 HR;subst hj;rw[sN];have t1:=zn j;have t2:(j:Int)<(env.length:Int):=by omega
 have HV:=Ld hv;have HM:=Ld hm;have FR:=Ld fun (W:World) (hW:Below w.heap.size w W)=>implRecType (zA hox hW) hsm ⟨hrg.1,hrg.2⟩ (hv.below hW) (hm.below hW);have HO:=Ld hox;have HC0:=Ld HC;have s4:=hsm.ctors;clear h hs hr he hok hraw HC hox hsm hrg hv hm h0;obtain⟨⟨kd,nm,ps,fl,ty,vl,cs⟩,lbs⟩:=e;have hval:=hJ kd nm ps fl ty vl cs (.slice ua cs.length uc);simp only[hval] at FR;simp only at HC0 HR HO hk hkd s4;have HB:=Ld ((zE w (.cells #[.slice (some ⟨g,0,none⟩) env.length rc,.map (some b)] 51)).alloc (zE w _).size (.cells #[.int .i64 what,.int .i64 j,.int .i64 rk] 49));obtain⟨c0,c1,c2,c3,c4,c5,c6⟩:=HC0.out _ (bR _ _);obtain⟨b0,b1,b2,b3,b4,b5,b6⟩:=HC0.out _ HB.out;go_enter Tryz.func41,Tryz.ntmps41;have HB3:=Ld (HB.out.alloc HB.out.size (dC kd nm ps fl ty vl (.slice ua cs.length uc) 37));by_cases h5:what=5
 ·subst h5;have hkk:∃ k:Nat,k<cs.length/\rk=(k:Int):=by
   rcases hk with k|k|k
   ·omega
   ·exact k.2
   ·exact absurd k.1 (by decide)
  obtain⟨k,hkl,rfl⟩:=hkk;obtain⟨gc,cc,ec,_,hgc⟩:=HO.out.form (by omega);cases ec;obtain⟨fa,fb⟩:=sZ hkl;have y1:=((zA HO.out HB3.out).cellAt (k*2+1) (by omega)).trans fb;rw[iP rfl,Int.toNat_natCast,List.getElem?_eq_getElem hkl] at HR;have q1:=zn k;have q2:(k:Int)<(cs.length:Int):=(by omega);clear fa fb FR hk;generalize cs[k]=ck at y1 HR;obtain⟨cn,ct⟩:=ck;unfold sv at y1;simp only at y1;go_wp2;go_ret;rw[HR.out];exact⟨rfl,HB3.out⟩
 rw[iN h5] at HR;have e5:(what==5)=false:=by rw[bF];exact h5
 by_cases h6:what=6
 ·subst h6;rw[iP rfl] at HR;have f2:=Ld (FR.out _ HB3.out);generalize uJ ⟨kd,nm,ps,fl,ty,vl,cs⟩=rt at f2 HR;obtain⟨tt,tb,hq⟩:=tI rt;rw[hq] at f2;have HT:Hid (tt=⟨rw0.toArray⟩):=by
   rw[Hid,HR.out];cases rt with
  |none=>unfold vN at hq;simp at hq;exact hq.1.symm
  |some t=>unfold vN at hq;simp at hq;exact hq.1.symm
  clear FR hk hq;go_wp2_with fail;(with_reducible refine mo f2.out fun w2 hb2=>?_);have HB4:=bt HB3.out hb2;clear f2 hb2;go_wp2;go_ret;rw[HT.out];exact⟨rfl,HB4.out⟩
 ·rw[iN h6] at HR;have e6:(what==6)=false:=(by rw[bF];exact h6);clear FR hk;go_wp2;go_ret;rw[HR.out];exact⟨rfl,HB3.out⟩
theorem implTypeE{w:World}{B:Nat}{ra:Option Addr}{rn rc b m:Nat}{env:List En}(h:uI w B (.slice ra rn rc) env)(hs:xW env)(hr:mJ env)(hv:Vars w)(hm:MaxLenInt w)(ht:TabIs w b m (vW env env.length 0))(n:List UInt8)(hn:n.length<=281474976710656)
  {b2:Nat} {lv:Value} {ls:List (List UInt8)} (hl:w.ownsRow b2 9 1 lv ls.length (ls.map sv)) (hl1:ls.length<=1048576) (hl2:∀ x∈ls,x.length<=1048576) :
  Rt 26 #[.agg #[.slice ra rn rc,.map (some b)],.string ⟨n.toArray⟩,lv] w (vN (rG env n ls)):=by
 obtain⟨la,lc,rfl⟩:=vB hl;have HB:=Ld (zE w (.cells #[.slice ra rn rc,.map (some b)] 51));have HX:=Ld (envBox (w:=w) (s:=.slice ra rn rc) (m:=.map (some b)));have hP:=nG env n;have HE:Hid (rG env n ls=mD env (yG env n) ls):=rfl;have FL:=Ld fun (W:World) (hW:Below w.heap.size w W)=>mX (h.below hW) hs hr (hv.below hW) (hm.below hW) (ht.below hW) n hn;have FF:=Ld fun (W:World) (hW:Below w.heap.size w W)=>gG (ra:=ra) (rn:=rn) (rc:=rc) (ht.below hW) n hn;have FA:=Ld fun (h0:(yG env n).1≠0) (W:World) (hW:Below w.heap.size w W)=>implTypeAt (h.below hW) hs hr (hv.below hW) (hm.below hW) (b:=b) hP h0;have hLE:tL env n=uM env (yG env n):=rfl;rw[hLE] at FL;rw[lN] at FF;have FT:=Ld fun (W:World) (hW:Below w.heap.size w W) (t:List UInt8) (hx:t.length<=1048576)=>mH ⟨t.toArray⟩ (hv.below hW) (by rw[yB];unfold maxLen;omega) (zA hl hW) (fun x hx=>by have:=hl2 x hx;unfold maxLen;omega) (by omega);have hrl:(fJ env (yG env n)).length<=1048576:=rawAt_len hs hP;generalize rG env n ls=vf at HE |-;generalize yG env n=r at FF HE hP FL FA hrl;have HVE:Hid (vf=if (ls.length:Int)≠uM env r then none else yD (fJ env r) ls):=by
  rw[Hid,HE.out,mD];by_cases hq:(ls.length:Int)≠uM env r
  ·rw[iP (.inr hq),iP hq]
  ·have h0:r.1≠0:=by
    intro h0;apply hq;unfold uM;rw[iP h0];omega
   rw[iN (fun h=>h.elim h0 hq),iN hq,fJ];cases fI env r with
  |none=>exact(termLevels_nil ls).symm
  |some t=>rfl
 have HN0:Hid ((ls.length:Int)=uM env r->r.1≠0):=by
  intro hq h0;unfold uM at hq;rw[iP h0] at hq;omega
 clear h hs hr hv hm ht hl hl2 hLE HE hP;obtain⟨x0,x1⟩:=HX.out _ (bR _ _);have f1:=Ld (FL.out _ HB.out);generalize uM env r=mm at f1 HVE HN0;clear FL;go_enter Tryz.func26,Tryz.ntmps26;go_wp2_with fail;(with_reducible refine mo f1.out fun w1 hb1=>?_);have HBX:=Ld hb1;have HB1:=bt HB.out hb1;clear hb1 f1 x0 x1;obtain⟨x0,x1⟩:=HX.out _ HBX.out;by_cases hm:(ls.length:Int)=mm;rotate_left
 ·have em:((ls.length:Int) != mm)=true:=(by rw[bne_iff_ne];exact hm);have HF:Hid (vf=none):=(by rw[Hid,HVE.out,iP hm]);clear FF FA FT HVE hm HN0;go_wp2;refine bodyPost_ret (v:=.tuple #[.string ⟨#[]⟩,.bool false]) (by simp[results,Tryz.results26,go_sem]) rfl ⟨by rw[HF.out];rfl,HB1.out⟩
 ·subst hm;have HF:Hid (vf=yD (fJ env r) ls):=(by rw[Hid,HVE.out,iN (fun h=>h rfl)]);have FA2:=Ld (FA.out (HN0.out rfl));have FT2:=Ld fun (W:World) (hW:Below w.heap.size w W)=>FT.out W hW _ hrl;generalize fJ env r=rw0 at FA2 FT2 HF;generalize yD rw0 ls=tl at FT2 HF;obtain⟨tt,tb,hq⟩:=tI tl;rw[hq] at FT2;clear FA FT HVE HN0 hrl;have HBd:=Ld HB1.out.drew;have hXd:=HBX.out.drew;go_wp2;go_region_held3 (fun w'=>w'.cell? ⟨w.heap.size,0,none⟩=some (.slice ra rn rc)/\w'.cell? ⟨w.heap.size,1,none⟩=some (.map (some b))) (first|exact X4|exact X3|exact X2|exact⟨x0,x1⟩)
   (first|(go_at_call 24;(with_reducible refine mo (FF.out _ HBd.out) fun w2 hb2=>?_);have h2:=bt HBd.out hb2;have d2:=hXd.trans (hb2.mono hXd.size);have X2:=HX.out _ d2)|(go_at_call 41;(with_reducible refine mo (FA2.out _ h2.out) fun w3 hb3=>?_);have h3:=bt h2.out hb3;have d3:=d2.trans (hb3.mono d2.size);have X3:=HX.out _ d3)|(go_at_call 40;(with_reducible refine mo (FT2.out _ h3.out) fun w4 hb4=>?_);have h4:=bt h3.out hb4;have d4:=d3.trans (hb4.mono d3.size);have X4:=HX.out _ d4))
  go_wp2;refine bodyPost_ret (v:=.tuple #[.string tt,.bool tb]) (by simp[results,Tryz.results26,go_sem]) rfl ⟨by rw[HF.out,hq],h4.out⟩
theorem implTypeFor{w:World}{B:Nat}{v:Value}{env:List En}(h:uI w B v env)(hs:xW env)(hr:mJ env)(hv:Vars w)(hm:MaxLenInt w)(n:List UInt8)(hn:n.length<=281474976710656)
  {b2:Nat} {lv:Value} {ls:List (List UInt8)} (hl:w.ownsRow b2 9 1 lv ls.length (ls.map sv)) (hl1:ls.length<=1048576) (hl2:∀ x∈ls,x.length<=1048576) :
  Rt 11 #[v,.string ⟨n.toArray⟩,lv] w (vN (rG env n ls)):=by
 obtain⟨ra,rc,rfl⟩:=h.len;obtain⟨la,lc,rfl⟩:=vB hl;have f1:=Ld (nF h hs hr hv hm);have F2:=Ld fun (W:World) (hW:Below w.heap.size w W) (b:Nat) (ht:TabIs W b (zV env).length (vW env env.length 0))=>implTypeE (h.below hW) hs hr (hv.below hW) (hm.below hW) ht n hn (zA hl hW) hl1 hl2;generalize rG env n ls=vf at F2 |-;obtain⟨tt,tb,hq⟩:=tI vf;rw[hq] at F2 |-;clear h hs hr hv hm hl hl2 hq;go_enter Tryz.func11,Tryz.ntmps11;go_wp2_with fail;(with_reducible refine f1.out.mono ?_);rintro e w1 ⟨b,rfl,ht,hb1⟩;have f2:=Ld (F2.out _ hb1 b ht);have HB1:=Ld hb1;clear f1 F2 hb1 ht;go_wp2_with fail;(with_reducible refine mo f2.out fun w2 hb2=>?_);have HB2:=bt HB1.out hb2;clear f2 hb2;go_wp2;refine bodyPost_ret (v:=.tuple #[.string tt,.bool tb]) (by simp[results,Tryz.results11,go_sem]) rfl ⟨rfl,HB2.out⟩
theorem implValueE{w:World}{B:Nat}{ra:Option Addr}{rn rc b m:Nat}{env:List En}(h:uI w B (.slice ra rn rc) env)(hs:xW env)(hr:mJ env)(hv:Vars w)(hm:MaxLenInt w)(ht:TabIs w b m (vW env env.length 0))(n:List UInt8)(hn:n.length<=281474976710656)
  {b2:Nat} {lv:Value} {ls:List (List UInt8)} (hl:w.ownsRow b2 9 1 lv ls.length (ls.map sv)) (hl1:ls.length<=1048576) (hl2:∀ x∈ls,x.length<=1048576) :
  Rt 27 #[.agg #[.slice ra rn rc,.map (some b)],.string ⟨n.toArray⟩,lv] w (vN (sX env n ls)):=by
 obtain⟨la,lc,rfl⟩:=vB hl;have HB:=Ld (zE w (.cells #[.slice ra rn rc,.map (some b)] 51));have f1:=Ld (gG (ra:=ra) (rn:=rn) (rc:=rc) (ht.below HB.out) n hn);rw[lN] at f1;have HX:=Ld (envBox (w:=w) (s:=.slice ra rn rc) (m:=.map (some b)));have hP:=nG env n;have HE:Hid (sX env n ls=mL env (yG env n) ls):=rfl;have FL:=Ld fun (W:World) (hW:Below w.heap.size w W)=>mX (h.below hW) hs hr (hv.below hW) (hm.below hW) (ht.below hW) n hn;have hLE:tL env n=uM env (yG env n):=rfl;rw[hLE] at FL;have FT:=Ld fun (W:World) (hW:Below w.heap.size w W) (t:List UInt8) (hx:t.length<=1048576)=>mH ⟨t.toArray⟩ (hv.below hW) (by rw[yB];unfold maxLen;omega) (zA hl hW) (fun x hx=>by have:=hl2 x hx;unfold maxLen;omega) (by omega);obtain⟨x0,x1⟩:=HX.out _ (bR _ _);generalize sX env n ls=vf at HE |-;generalize yG env n=r at f1 HE hP FL;clear ht hLE hl hl2;rcases hP with rfl|⟨j,e,he,hok,hj,hk⟩
 ·have HF:Hid (vf=none):=(by rw[Hid,HE.out,mL,iP (.inl (by decide))]);simp only[sN] at f1;clear h HE hs hr FL FT;go_enter Tryz.func27,Tryz.ntmps27;go_wp2_with fail;(with_reducible refine mo f1.out fun w1 hb1=>?_);have HB1:=bt HB.out hb1;clear hb1 f1;go_wp2;refine bodyPost_ret (v:=.tuple #[.string ⟨#[]⟩,.bool false]) (by simp[results,Tryz.results27,go_sem]) rfl ⟨by rw[HF.out];rfl,HB1.out.alloc HB1.out.size _⟩
 have hsm:=(hs.2 _ (List.mem_of_getElem? he)).1;obtain⟨g,cap,ua,uc,e1,hjl,hox,HC⟩:=gH h he;cases e1;obtain⟨what,ri,rk⟩:=r;simp only at hj;subst hj;simp only[sN] at f1;have HCx:=Ld HC;have t1:=zn j;have t2:(j:Int)<(env.length:Int):=by omega
 have s3:=hsm.value;by_cases h2:what=2;rotate_left
 ·have q2:(what != 2)=true:=(by rw[bne_iff_ne];exact h2);have HF:Hid (vf=none):=(by rw[Hid,HE.out,mL,iP (.inl h2)]);clear h HE hs hr he hok hk HC hox hsm hv hm FL FT HCx;go_enter Tryz.func27,Tryz.ntmps27;go_wp2_with fail;(with_reducible refine mo f1.out fun w1 hb1=>?_);have HB1:=bt HB.out hb1;clear hb1 f1;go_wp2;refine bodyPost_ret (v:=.tuple #[.string ⟨#[]⟩,.bool false]) (by simp[results,Tryz.results27,go_sem]) rfl ⟨by rw[HF.out];rfl,HB1.out.alloc HB1.out.size _⟩
 subst h2;have HVE:Hid (vf=if (ls.length:Int)≠uM env (2,(j:Int),rk) then none else yD e.1.value ls):=by
  rw[Hid,HE.out,mL];by_cases hq:(ls.length:Int)≠uM env (2,(j:Int),rk)
  ·rw[iP (.inr hq),iP hq]
  ·rw[iN (fun h=>h.elim (fun h=>h rfl) hq),iN hq];show (match env[((j:Int)).toNat]? with|some e=>yD e.1.value ls|none=>none)=_;rw[Int.toNat_natCast,he]
 clear h HE hs hr he hok hk HC hox hsm hv hm;generalize uM env (2,(j:Int),rk)=mm at FL HVE;obtain⟨⟨kd,nm,ps,fl,ty,vl,cs⟩,lbs⟩:=e;simp only at HCx HVE s3;have HBP:=Ld fun (w1:World) (hb:Below (w.alloc (.cells #[.slice (some ⟨g,0,none⟩) env.length rc,.map (some b)] 51)).heap.size (w.alloc (.cells #[.slice (some ⟨g,0,none⟩) env.length rc,.map (some b)] 51)) w1)=>hb.alloc hb.size (.cells #[.int .i64 2,.int .i64 j,.int .i64 rk] 49);go_enter Tryz.func27,Tryz.ntmps27;go_wp2_with fail;(with_reducible refine mo f1.out fun w1 hb1=>?_);have HB1:=Ld (HBP.out _ hb1);have HB2:=Ld (HB.out.trans (HB1.out.mono HB.out.size));obtain⟨y0,y1⟩:=HX.out _ HB1.out;have f2:=Ld (FL.out _ HB2.out);obtain⟨z0,z1,z2⟩:=nV w1 (2,(j:Int),rk) (n:=w1.heap.size) rfl;have HP:=Ld fun (W:World) (hW:Below (w1.alloc (.cells #[.int .i64 2,.int .i64 j,.int .i64 rk] 49)).heap.size (w1.alloc (.cells #[.int .i64 2,.int .i64 j,.int .i64 rk] 49)) W)=>(hW.cell (p:=⟨w1.heap.size,1,none⟩) (by simp)).trans z1;clear hb1 f1 HBP x0 x1 FL;go_wp2_with fail;(with_reducible refine mo f2.out fun w2 hb2=>?_);have HB3:=bt HB1.out hb2;have HB4:=bt HB2.out hb2;have k1:=HP.out _ hb2;clear f2 hb2 y0 y1 z0 z1 z2 HP;obtain⟨y0,y1⟩:=HX.out _ HB3.out;by_cases hm:(ls.length:Int)=mm;rotate_left
 ·have em:((ls.length:Int) != mm)=true:=(by rw[bne_iff_ne];exact hm);have HF:Hid (vf=none):=(by rw[Hid,HVE.out,iP hm]);clear FT HCx HX HVE hm;go_wp2;refine bodyPost_ret (v:=.tuple #[.string ⟨#[]⟩,.bool false]) (by simp[results,Tryz.results27,go_sem]) rfl ⟨by rw[HF.out];rfl,HB4.out⟩
 ·subst hm;have HF:Hid (vf=yD vl ls):=(by rw[Hid,HVE.out,iN (fun h=>h rfl)]);obtain⟨c0,c1,c2,c3,c4,c5,c6⟩:=HCx.out _ HB4.out;have f3:=Ld (FT.out _ HB4.out vl s3);generalize yD vl ls=tl at f3 HF;obtain⟨tt,tb,hq⟩:=tI tl;rw[hq] at f3;clear FT HCx HX HVE;go_wp2_with fail;(with_reducible refine mo f3.out fun w3 hb3=>?_);have HB5:=bt HB4.out hb3;clear f3 hb3;go_wp2;refine bodyPost_ret (v:=.tuple #[.string tt,.bool tb]) (by simp[results,Tryz.results27,go_sem]) rfl ⟨by rw[HF.out,hq],HB5.out⟩
theorem implValueFor{w:World}{B:Nat}{v:Value}{env:List En}(h:uI w B v env)(hs:xW env)(hr:mJ env)(hv:Vars w)(hm:MaxLenInt w)(n:List UInt8)(hn:n.length<=281474976710656)
  {b2:Nat} {lv:Value} {ls:List (List UInt8)} (hl:w.ownsRow b2 9 1 lv ls.length (ls.map sv)) (hl1:ls.length<=1048576) (hl2:∀ x∈ls,x.length<=1048576) :
  Rt 12 #[v,.string ⟨n.toArray⟩,lv] w (vN (sX env n ls)):=by
 obtain⟨ra,rc,rfl⟩:=h.len;obtain⟨la,lc,rfl⟩:=vB hl;have f1:=Ld (nF h hs hr hv hm);have F2:=Ld fun (W:World) (hW:Below w.heap.size w W) (b:Nat) (ht:TabIs W b (zV env).length (vW env env.length 0))=>implValueE (h.below hW) hs hr (hv.below hW) (hm.below hW) ht n hn (zA hl hW) hl1 hl2;generalize sX env n ls=vf at F2 |-;obtain⟨tt,tb,hq⟩:=tI vf;rw[hq] at F2 |-;clear h hs hr hv hm hl hl2 hq;go_enter Tryz.func12,Tryz.ntmps12;go_wp2_with fail;(with_reducible refine f1.out.mono ?_);rintro e w1 ⟨b,rfl,ht,hb1⟩;have f2:=Ld (F2.out _ hb1 b ht);have HB1:=Ld hb1;clear f1 F2 hb1 ht;go_wp2_with fail;(with_reducible refine mo f2.out fun w2 hb2=>?_);have HB2:=bt HB1.out hb2;clear f2 hb2;go_wp2;refine bodyPost_ret (v:=.tuple #[.string tt,.bool tb]) (by simp[results,Tryz.results12,go_sem]) rfl ⟨rfl,HB2.out⟩
end Go.Proofs.YtfcoljanbjbphaaGreatDoor
