/- QIf ShelfK QIk QIy QIv QIl -/
import Derived.Shelf.SlIter.Nil
import Derived.Shelf.SortM.Plain
import Derived.Shelf.SortM.SortNone
import Derived.Ground.GgzProg
import Derived.Ground.SlgmProg
import Derived.Test.YtgppcegcpiaocaaGreatDoorProg
import Derived.Test.YtgppcegcpiaocaaGreatDoorNQI
import Derived.Test.YtgppcegcpiaocaaGreatDoorNQD
import Derived.Test.YtgppcegcpiaocaaGreatDoorNZQPz
import Derived.Test.YtgppcegcpiaocaaGreatDoorNK6
import Derived.Test.YtgppcegcpiaocaaGreatDoorNHL
set_option maxRecDepth 100000
set_option maxHeartbeats 16000000
set_option linter.unusedSimpArgs false
set_option linter.unusedVariables false
namespace Go.Proofs.YtgppcegcpiaocaaGreatDoor
open Go.ChangeShapes Go.WideShapes Go.ChangeAt Go.RowKit
theorem sN(r:Pl):yP r=.agg #[.int .i64 r.1,.int .i64 r.2.1,.int .i64 r.2.2.1,.int .i64 r.2.2.2]:=rfl
theorem gF{w:World}{ra:Option Addr}{rn rc b m:Nat}{G:List UInt8->Option Pl}(h:TabIs w b m G)(n:List UInt8)(hn:n.length<=281474976710656) :
  Rt 24 #[.agg #[.slice ra rn rc,.map (some b)],.string ⟨n.toArray⟩] w (yP ((G n).getD (0,-1,0,-1))):=by
 have HB:=Ld (zE w (.cells #[.slice ra rn rc,.map (some b)] 51));have HB1:=Ld (HB.out.alloc HB.out.size (.cells #[.int .i64 0,.int .i64 0,.int .i64 0,.int .i64 0] 49));have L:=(h.below HB1.out).look (s:=n) (by unfold maxLen;omega);have c1:((w.alloc (.cells #[.slice ra rn rc,.map (some b)] 51)).alloc (.cells #[.int .i64 0,.int .i64 0,.int .i64 0,.int .i64 0] 49)).cell? ⟨w.heap.size,1,none⟩=some (.map (some b)):=by
  rw[((bR _ _).alloc (nR _) _).cell (p:=⟨w.heap.size,1,none⟩) (by simp)];exact World.news_of_block (cs:=#[.slice ra rn rc,.map (some b)]) (t:=51) (fr:=(0,0)) (heap_alloc_new w _) 1 _ rfl
 clear h;cases hG:G n with
|none =>
  rw[hG] at L;simp only[sN,Option.getD_none,Option.isSome_none] at L |-;clear hG;go_enter Tryz.func24,Tryz.ntmps24;go_wp2;obtain⟨a0,a1,a2,a3⟩:=zF7 (w.alloc (.cells #[.slice ra rn rc,.map (some b)] 51)) ((0:Int),(-1:Int),(0:Int),(-1:Int)) (.cells #[.int .i64 0,.int .i64 0,.int .i64 0,.int .i64 0] 49) (n:=w.heap.size+1) (by simp);refine bodyPost_ret (v:=yP ((0:Int),(-1:Int),(0:Int),(-1:Int))) (by simp[results,Tryz.results24,go_sem,a0,a1,a2,a3,yP]) rfl ⟨rfl,(HB.out.alloc HB.out.size _).alloc (HB.out.alloc HB.out.size _).size _⟩
|some r =>
  obtain⟨r0,r1,r2,r3⟩:=r;rw[hG] at L;simp only[sN,Option.getD_some,Option.isSome_some] at L |-;clear hG;go_enter Tryz.func24,Tryz.ntmps24;go_wp2;obtain⟨a0,a1,a2,a3⟩:=zF7 (w.alloc (.cells #[.slice ra rn rc,.map (some b)] 51)) (r0,r1,r2,r3) (.cells #[.int .i64 r0,.int .i64 r1,.int .i64 r2,.int .i64 r3] 49) (n:=w.heap.size+1) (by simp);refine bodyPost_ret (v:=yP (r0,r1,r2,r3)) (by simp[results,Tryz.results24,go_sem,a0,a1,a2,a3,yP]) rfl ⟨rfl,(HB.out.alloc HB.out.size _).alloc (HB.out.alloc HB.out.size _).size _⟩
theorem zS7{w:World}{B:Nat}{v:Value}{env:List En}(h:uL w B v env)(hs:vE env)(hr:kS env)(hv:Vars w)(hm:MaxLenInt w)(n:List UInt8)(hn:n.length<=281474976710656) :
  Rt 9 #[v,.string ⟨n.toArray⟩] w (uD (yC env n)):=by
 obtain⟨ra,rc,rfl⟩:=h.len;have f1:=Ld (nG h hs hr hv hm);have HE:=lJ (env:=env) n;unfold fnd4 at HE;generalize yC env n=r at HE |-;generalize uN env n=r3 at HE;obtain⟨r0,r1,r2⟩:=r;simp only at HE;unfold uD;clear h hs hr hv hm;go_enter Tryz.func9,Tryz.ntmps9;go_wp2_with fail;(with_reducible refine f1.out.mono ?_);rintro e w1 ⟨b,rfl,ht,hb1⟩;have f2:=Ld (gF (ra:=ra) (rn:=env.length) (rc:=rc) ht n hn);rw[HE] at f2;simp only[sN] at f2;have HB1:=Ld hb1;clear f1 HE hb1 ht;go_wp2_with fail;(with_reducible refine mo f2.out fun w2 hb2=>?_);have HB2:=bt HB1.out hb2;clear f2 hb2;obtain⟨x0,x1,x2,x3⟩:=gD w2 (r0,r1,r2,r3) (n:=w2.heap.size) rfl;go_wp2;go_quiet (fail);go_wp2;refine bodyPost_ret (v:=.tuple #[.int .i64 r0,.int .i64 r1,.int .i64 r2]) (by simp[results,Tryz.results9,go_sem]) rfl ⟨rfl,zG (HB2.out.alloc HB2.out.size _) _⟩
end Go.Proofs.YtgppcegcpiaocaaGreatDoor
namespace Go.Proofs
open Go.Shelf
def Tryz.keys42_ren:Go.Shelf.Ren:=⟨fun|7=>17|10=>34|n=>n,fun|23=>47|26=>9|3=>49|28=>45|0=>0|27=>44|33=>70|4=>4|n=>n,fun|n=>n⟩
theorem Tryz.keys42:Go.Proofs.SlLaysZ.n7 Tryz.prog Tryz.keys42_ren:={
 mixed:=by kernel_rfl
 f7:=⟨Tryz.f17.name,by decide,Tryz.func17.trans (congrArg some (by kernel_rfl))⟩
 f10:=⟨Tryz.f34.name,by decide,Tryz.func34.trans (congrArg some (by kernel_rfl))⟩
 t0:=Tryz.underlying0
 a0:=Tryz.isAgg0
 z0:=Tryz.sizeOf0
 v0:=Tryz.zeroValue0
 t4:=Tryz.underlying4
 a4:=Tryz.isAgg4
 z4:=Tryz.sizeOf4
 v4:=Tryz.zeroValue4
 t23:=Tryz.underlying47
 a23:=Tryz.isAgg47
 z23:=Tryz.sizeOf47
 v23:=Tryz.zeroValue47
 t26:=Tryz.underlying9
 a26:=Tryz.isAgg9
 z26:=Tryz.sizeOf9
 v26:=Tryz.zeroValue9
 t27:=Tryz.underlying44
 a27:=Tryz.isAgg44
 z27:=Tryz.sizeOf44
 v27:=Tryz.zeroValue44
 t28:=Tryz.underlying45
 a28:=Tryz.isAgg45
 z28:=Tryz.sizeOf45
 v28:=Tryz.zeroValue45
 t33:=Tryz.underlying70
 a33:=Tryz.isAgg70
 z33:=Tryz.sizeOf70
 v33:=Tryz.zeroValue70 }
def Tryz.sorted41_ren:Go.Shelf.Ren:=⟨fun|6=>16|8=>32|9=>33|11=>47|13=>49|12=>48|23=>82|24=>83|14=>73|15=>74|16=>75|17=>76|18=>77|19=>78|20=>79|21=>80|22=>81|25=>118|26=>119|27=>120|28=>121|29=>122|30=>123|31=>153|n=>n,fun|26=>9|28=>45|24=>26|0=>0|3=>3|37=>78|48=>141|50=>143|4=>4|40=>133|39=>132|45=>138|5=>5|9=>9|51=>164|55=>168|57=>195|58=>192|33=>70|n=>n,fun|n=>n⟩
theorem Tryz.sorted41:Go.Proofs.SlLaysZ.n6 Tryz.prog Tryz.sorted41_ren:={
 mixed:=by kernel_rfl
 f6:=⟨Tryz.f16.name,by decide,Tryz.func16.trans (congrArg some (by kernel_rfl))⟩
 f8:=⟨Tryz.f32.name,by decide,Tryz.func32.trans (congrArg some (by kernel_rfl))⟩
 f11:=⟨Tryz.f47.name,by decide,Tryz.func47.trans (congrArg some (by kernel_rfl))⟩
 t0:=Tryz.underlying0
 a0:=Tryz.isAgg0
 z0:=Tryz.sizeOf0
 v0:=Tryz.zeroValue0
 t24:=Tryz.underlying26
 a24:=Tryz.isAgg26
 z24:=Tryz.sizeOf26
 v24:=Tryz.zeroValue26
 t26:=Tryz.underlying9
 a26:=Tryz.isAgg9
 z26:=Tryz.sizeOf9
 v26:=Tryz.zeroValue9
 t28:=Tryz.underlying45
 a28:=Tryz.isAgg45
 z28:=Tryz.sizeOf45
 v28:=Tryz.zeroValue45
 i26:=by kernel_rfl }
def Tryz.sort65_ren:Go.Shelf.Ren:=⟨fun|6=>33|8=>49|9=>48|19=>82|20=>83|21=>73|22=>74|23=>75|24=>76|25=>77|26=>78|27=>79|28=>80|29=>81|36=>118|31=>119|32=>120|37=>121|38=>122|39=>123|41=>153|n=>n,fun|27=>26|29=>9|3=>3|32=>78|26=>26|0=>0|44=>141|46=>143|4=>4|36=>133|35=>132|41=>138|5=>5|9=>9|53=>164|57=>168|63=>195|64=>192|n=>n,fun|n=>n⟩
theorem Tryz.sort65:Go.Proofs.SlLaysM.n6 Tryz.prog Tryz.sort65_ren:={
 mixed:=by kernel_rfl
 f6:=⟨Tryz.f33.name,by decide,Tryz.func33.trans (congrArg some (by kernel_rfl))⟩
 f8:=Tryz.func49.trans (congrArg some (by kernel_rfl))
 f9:=⟨Tryz.f48.name,by decide,Tryz.func48.trans (congrArg some (by kernel_rfl))⟩
 f19:=Tryz.func82.trans (congrArg some (by kernel_rfl))
 f20:=Tryz.func83.trans (congrArg some (by kernel_rfl))
 f21:=⟨Tryz.f73.name,by decide,Tryz.func73.trans (congrArg some (by kernel_rfl))⟩
 f22:=⟨Tryz.f74.name,by decide,Tryz.func74.trans (congrArg some (by kernel_rfl))⟩
 f23:=⟨Tryz.f75.name,by decide,Tryz.func75.trans (congrArg some (by kernel_rfl))⟩
 f24:=⟨Tryz.f76.name,by decide,Tryz.func76.trans (congrArg some (by kernel_rfl))⟩
 f25:=⟨Tryz.f77.name,by decide,Tryz.func77.trans (congrArg some (by kernel_rfl))⟩
 f26:=⟨Tryz.f78.name,by decide,Tryz.func78.trans (congrArg some (by kernel_rfl))⟩
 f27:=⟨Tryz.f79.name,by decide,Tryz.func79.trans (congrArg some (by kernel_rfl))⟩
 f28:=⟨Tryz.f80.name,by decide,Tryz.func80.trans (congrArg some (by kernel_rfl))⟩
 f29:=⟨Tryz.f81.name,by decide,Tryz.func81.trans (congrArg some (by kernel_rfl))⟩
 f31:=Tryz.func119.trans (congrArg some (by kernel_rfl))
 f32:=Tryz.func120.trans (congrArg some (by kernel_rfl))
 f36:=⟨Tryz.f118.name,by decide,Tryz.func118.trans (congrArg some (by kernel_rfl))⟩
 f37:=⟨Tryz.f121.name,by decide,Tryz.func121.trans (congrArg some (by kernel_rfl))⟩
 f38:=⟨Tryz.f122.name,by decide,Tryz.func122.trans (congrArg some (by kernel_rfl))⟩
 f39:=⟨Tryz.f123.name,by decide,Tryz.func123.trans (congrArg some (by kernel_rfl))⟩
 f41:=⟨Tryz.f153.name,by decide,Tryz.func153.trans (congrArg some (by kernel_rfl))⟩
 t0:=Tryz.underlying0
 a0:=Tryz.isAgg0
 z0:=Tryz.sizeOf0
 v0:=Tryz.zeroValue0
 t3:=Tryz.underlying3
 a3:=Tryz.isAgg3
 z3:=Tryz.sizeOf3
 v3:=Tryz.zeroValue3
 t4:=Tryz.underlying4
 a4:=Tryz.isAgg4
 z4:=Tryz.sizeOf4
 v4:=Tryz.zeroValue4
 t5:=Tryz.underlying5
 a5:=Tryz.isAgg5
 z5:=Tryz.sizeOf5
 v5:=Tryz.zeroValue5
 t9:=Tryz.underlying9
 a9:=Tryz.isAgg9
 z9:=Tryz.sizeOf9
 v9:=Tryz.zeroValue9
 t26:=Tryz.underlying26
 a26:=Tryz.isAgg26
 z26:=Tryz.sizeOf26
 v26:=Tryz.zeroValue26
 t27:=Tryz.underlying26
 a27:=Tryz.isAgg26
 z27:=Tryz.sizeOf26
 v27:=Tryz.zeroValue26
 t29:=Tryz.underlying9
 a29:=Tryz.isAgg9
 z29:=Tryz.sizeOf9
 v29:=Tryz.zeroValue9
 t32:=Tryz.underlying78
 a32:=Tryz.isAgg78
 z32:=Tryz.sizeOf78
 v32:=Tryz.zeroValue78
 t35:=Tryz.underlying132
 a35:=Tryz.isAgg132
 z35:=Tryz.sizeOf132
 v35:=Tryz.zeroValue132
 t36:=Tryz.underlying133
 a36:=Tryz.isAgg133
 z36:=Tryz.sizeOf133
 v36:=Tryz.zeroValue133
 t41:=Tryz.underlying138
 a41:=Tryz.isAgg138
 z41:=Tryz.sizeOf138
 v41:=Tryz.zeroValue138
 t44:=Tryz.underlying141
 a44:=Tryz.isAgg141
 z44:=Tryz.sizeOf141
 v44:=Tryz.zeroValue141
 t46:=Tryz.underlying143
 a46:=Tryz.isAgg143
 z46:=Tryz.sizeOf143
 v46:=Tryz.zeroValue143
 t53:=Tryz.underlying164
 a53:=Tryz.isAgg164
 z53:=Tryz.sizeOf164
 v53:=Tryz.zeroValue164
 t57:=Tryz.underlying168
 a57:=Tryz.isAgg168
 z57:=Tryz.sizeOf168
 v57:=Tryz.zeroValue168
 t63:=Tryz.underlying195
 a63:=Tryz.isAgg195
 z63:=Tryz.sizeOf195
 v63:=Tryz.zeroValue195
 t64:=Tryz.underlying192
 a64:=Tryz.isAgg192
 z64:=Tryz.sizeOf192
 v64:=Tryz.zeroValue192 }
end Go.Proofs
namespace Go.Proofs.YtgppcegcpiaocaaGreatDoor
open Go.ChangeShapes Go.WideShapes Go.ChangeAt Go.RowKit Go.Maps Go.Sort
theorem xH3 (m:Nat):AnyZ.SortsIn Tryz.prog Tryz.sorted41_ren Fence.wide m :=
  ⟨fun blk off cap ss W hH hblk hsz=>callsIn_wide.2 (AnyM.slices_Sort_string Tryz.sort65 blk off cap ss W hH hblk hsz),
   fun p cap W=>callsIn_wide.2 (AnyM.slices_Sort_string_none Tryz.sort65 p cap W)⟩
theorem keysAt (mb:Option Nat) (W:World):Calls Tryz.prog 17 #[.map mb] W fun e w'=>e=.returned (.func (.func 34) #[] #[.pointer (some ⟨W.heap.size,0,none⟩)])/\w'=W.alloc (.cells #[.map mb] 47) :=
  callsIn_wide.1 (AnyZ.keys_in Tryz.keys42 Fence.wide 5 trivial rfl mb W)
theorem yV8 {H:Type} (b nn:Nat) (D0:DataW H) (R:Value->Option (DataW H × List MemPlace)) (w:World) (hown:w.ownsMap Tryz.prog 9 R b nn D0) (hmax:Maps.size D0<=maxLen) (hbytes:Maps.size D0*16<=140737488355328) :
    Calls Tryz.prog 16 #[.func (.func 34) #[] #[.pointer (some ⟨w.heap.size,0,none⟩)]] (w.alloc (.cells #[.map (some b)] 47)) fun e w'=>∃ (v:Value) (ss:List (List UInt8)),e=.returned v/\ss.Perm (strKeys D0) /\
      w'.ownsRow (w.alloc (.cells #[.map (some b)] 47)).heap.size 9 1 v ss.length ((ss.mergeSort (fun x y=>decide (x<=y))).map encStr)/\(v=.slice none 0 0↔ss=[])/\Below (w.alloc (.cells #[.map (some b)] 47)).heap.size (w.alloc (.cells #[.map (some b)] 47)) w':=by
  have hbl:=hown.lt
  have hseq:SeqGives Fence.wide 2 Tryz.prog 34 #[.pointer (some ⟨w.heap.size,0,none⟩)] encStr (fun ss=>ss.Perm (strKeys D0)) (Maps.size D0) (w.alloc (.cells #[.map (some b)] 47)) :=
    AnyZ.keys_gives (ρ:=Tryz.keys42_ren) { Tryz.keys42 with } Fence.wide _ trivial rfl (by omega) w.heap.size b nn D0 _ (by simp) (by simp) (by
      obtain ⟨es,clock,hb,Ft,hs,hD⟩:=hown
      exact ⟨es,clock,(Below.heap_alloc _ _ b hbl).trans hb,Ft,hs,hD⟩)
  exact callsIn_wide.1 (AnyZ.sorted_in Tryz.sorted41 Fence.wide 5 trivial trivial trivial trivial rfl (by omega) (xH3 _) (enters_of Tryz.func33 (by kernel_rfl) rfl) 34 #[.pointer (some ⟨w.heap.size,0,none⟩)] trivial (enters_of Tryz.func34 (by kernel_rfl) rfl) _ _ hmax hbytes _ hseq)
theorem TabIs.keys {w:World} {b m:Nat} {G:List UInt8->Option Pl} (h:TabIs w b m G) {l:List (List UInt8)} (hl:∀ s,(G s).isSome=true↔s∈l) :
    ∃ D:DataW Unit,w.ownsMap Tryz.prog 9 rI b m D/\Maps.size D<=m/\∀ ss:List (List UInt8),ss.Perm (strKeys D)->ss.mergeSort (fun x y=>decide (x<=y))=srt l:=by
  obtain ⟨D,h1,h2⟩:=h
  refine ⟨D,h1,h1.size_le,fun ss hp=>?_⟩
  obtain ⟨ha,hm,_⟩:=srt_spec l.length l (nR _)
  obtain ⟨es,rfl,hpw⟩:=h1.tidy yH7
  obtain ⟨es',he,hk⟩:=h1.keysOf
  obtain rfl:es=es':=by injection he
  have hnd:(srt l).Nodup:=ha.imp (fun h=>lt_ne h)
  have hq:(srt l).Perm (strKeys (.map es)):=perm_strKeys hpw (fun p hp=>by
    obtain ⟨key,hkey⟩:=hk p hp
    obtain ⟨x,_,hx,_⟩:=Maps.keyOf_str Tryz.underlying9 hkey
    exact ⟨x,hx⟩) hnd (fun x=>by rw [hm x,← hl x,← (h2 x).1])
  rw [show (fun x y:List UInt8=>decide (x<=y))=leB from rfl,mergeSort_of_perm (hp.trans hq.symm)]
  refine List.mergeSort_of_pairwise (ha.imp fun h=>?_)
  simp only [leB,decide_eq_true_eq]
  exact List.le_of_lt h
theorem yE4 {w:World} {B:Nat} {v:Value} {env:List En} (h:uL w B v env) (hs:vE env) (hr:kS env) (hv:Vars w) (hm:MaxLenInt w) (hl:(zX env).length<=1000000) :
    Calls Tryz.prog 6 #[v] w (nZ (tW env) w):=by
  obtain ⟨ra,rc,rfl⟩:=h.len
  have f1:=Ld (nG h hs hr hv hm)
  have F2:=Ld fun (W:World) (b:Nat) (ht:TabIs W b (zX env).length (uI env env.length 0))=>ht.keys (l:=zX env) (fun s=>zN5 s)
  clear h hs hr hv hm
  unfold nZ
  have hfield:∀ (W:World) (m:Option Nat),(Instr.field 51 (.agg #[.slice ra env.length rc,.map m]) 1).run Tryz.prog W=.ok (.map m) W:=fun W m=>by kernel_rfl
  go_enter Tryz.func6,Tryz.ntmps6
  go_wp2_with fail
  (with_reducible refine f1.out.mono ?_);rintro e w1 ⟨b,rfl,ht,hb1⟩
  obtain ⟨D,hown,hsz,hk⟩:=F2.out _ b ht
  have f2:=Ld (keysAt (some b) w1)
  have f3:=Ld (yV8 b _ D rI w1 hown (by unfold maxLen;omega) (by omega))
  have HK:=Ld hk
  have HB1:=Ld hb1
  clear f1 F2 hb1 ht hown hk
  go_wp2_with fail
  (with_reducible refine mo f2.out ?_);rintro w2 rfl
  go_wp2_with fail
  (with_reducible refine f3.out.mono ?_);rintro e w3 ⟨v3,ss,rfl,hp,hrow,_,hb3⟩
  have HV:Hid (w3.ownsRow w.heap.size 9 1 v3 (tW env).length ((tW env).map sv)):=by
    have hlen:ss.length=(tW env).length:=by
      rw [show tW env=srt (zX env) from rfl,← HK.out ss hp,List.length_mergeSort]
    rw [Hid,← hlen,show tW env=srt (zX env) from rfl,← HK.out ss hp]
    exact yG hrow (by have:=HB1.out.size;simp;omega)
  have HB3:=Ld ((HB1.out.alloc HB1.out.size _).trans (hb3.mono (HB1.out.alloc HB1.out.size _).size))
  clear f2 f3 hp hrow hb3 HK
  go_wp2
  go_ret
  exact ⟨_,rfl,HV.out,HB3.out⟩
end Go.Proofs.YtgppcegcpiaocaaGreatDoor
namespace Go.Proofs.YtgppcegcpiaocaaGreatDoor
open Go.ChangeShapes Go.WideShapes Go.ChangeAt Go.RowKit
theorem dR(ls:List (List UInt8)):yE [] ls=none:=by
 unfold yE
 rw[yZ fun t h=>by
  have:=cN (uW.2 ⟨t,h⟩);simp at this]
noncomputable def fI (env:List En) (r:Int × Int × Int):List UInt8:=(fH env r).getD []
theorem yJ9{env:List En}(hs:vE env){r:Int × Int × Int}(hP:zN0 env r):(fI env r).length<=1048576:=by
 unfold fI;rcases hP with rfl|⟨j,e,he,hok,hj,hk⟩
 ·cases hq:fH env (0,-1,0) with
 |none=>simp
 |some t =>
   unfold fH at hq;split at hq
   ·rename_i e he;rw[iN (by decide),iN (by decide)] at hq;cases hq;exact(hs.2 _ (List.mem_of_getElem? he)).1.type
   ·cases hq
 ·have hsm:=(hs.2 _ (List.mem_of_getElem? he)).1;rw[aL he hj];split
  ·cases hc:e.1.ctors[r.2.2.toNat]? with
  |none=>simp
  |some c=>exact(hsm.each c (List.mem_of_getElem? hc)).2
  ·split
   ·cases hq:uJ e.1 with
   |none=>simp
   |some t=>have:=zO8 hq;simp only[Option.getD_some];omega
   ·exact hsm.type
theorem yE2{w:World}{B:Nat}{ra:Option Addr}{rn rc:Nat}{env:List En}(h:uL w B (.slice ra rn rc) env)(hs:vE env)(hr:kS env)(hv:Vars w)(hm:MaxLenInt w){b:Nat}{r:Pl}(hP:zN0 env (p3 r))(h0:r.1≠0) :
  Rt 39 #[.agg #[.slice ra rn rc,.map (some b)],yP r] w (.string ⟨(fI env (p3 r)).toArray⟩):=by
 rcases hP with hq|⟨j,e,he,hok,hj,hk⟩
 ·exact absurd (congrArg Prod.fst hq) h0
 have hsm:=(hs.2 _ (List.mem_of_getElem? he)).1;have hrg:=hr _ (List.mem_of_getElem? he);obtain⟨g,cap,ua,uc,e1,hjl,hox,HC⟩:=zC2 h he;cases e1;have hraw:=aL he hj;have HR:Hid (fI env (p3 r)=(if r.1=5 then (e.1.ctors[r.2.2.1.toNat]?).map (fun c=>c.2) else if r.1=6 then uJ e.1 else some e.1.type).getD []):=by rw[Hid,fI,hraw];rfl
 generalize fI env (p3 r)=rw0 at HR |-;have hkd:=oC hok;obtain⟨what,ri,rk,rl⟩:=r;simp only[p3] at hj hk h0 HR;subst hj;rw[sN];have t1:=zn j;have t2:(j:Int)<(env.length:Int):=by omega
 have HV:=Ld hv;have HM:=Ld hm;have FR:=Ld fun (W:World) (hW:Below w.heap.size w W)=>zR4 (zA hox hW) hsm ⟨hrg.1,hrg.2⟩ (hv.below hW) (hm.below hW);have HO:=Ld hox;have HC0:=Ld HC;have s4:=hsm.ctors;clear h hs hr he hok hraw HC hox hsm hrg hv hm h0;obtain⟨⟨kd,nm,ps,fl,ty,vl,cs⟩,lbs⟩:=e;have hval:=gG kd nm ps fl ty vl cs (.slice ua cs.length uc);simp only[hval] at FR;simp only at HC0 HR HO hk hkd s4;have HB:=Ld ((zE w (.cells #[.slice (some ⟨g,0,none⟩) env.length rc,.map (some b)] 51)).alloc (zE w _).size (.cells #[.int .i64 what,.int .i64 j,.int .i64 rk,.int .i64 rl] 49));obtain⟨c0,c1,c2,c3,c4,c5,c6⟩:=HC0.out _ (bR _ _);obtain⟨b0,b1,b2,b3,b4,b5,b6⟩:=HC0.out _ HB.out;go_enter Tryz.func39,Tryz.ntmps39;have HB3:=Ld (HB.out.alloc HB.out.size (dC kd nm ps fl ty vl (.slice ua cs.length uc) 37));by_cases h5:what=5
 ·subst h5;have hkk:∃ k:Nat,k<cs.length/\rk=(k:Int):=by
   rcases hk with k|k|k
   ·omega
   ·exact k.2
   ·exact absurd k.1 (by decide)
  obtain⟨k,hkl,rfl⟩:=hkk;obtain⟨gc,cc,ec,_,hgc⟩:=HO.out.form (by omega);cases ec;obtain⟨fa,fb⟩:=sZ hkl;have y1:=((zA HO.out HB3.out).cellAt (k*2+1) (by omega)).trans fb;rw[iP rfl,Int.toNat_natCast,List.getElem?_eq_getElem hkl] at HR;have q1:=zn k;have q2:(k:Int)<(cs.length:Int):=(by omega);clear fa fb FR hk;generalize cs[k]=ck at y1 HR;obtain⟨cn,ct⟩:=ck;unfold sv at y1;simp only at y1;go_wp2;go_ret;rw[HR.out];exact⟨rfl,HB3.out⟩
 rw[iN h5] at HR;have e5:(what==5)=false:=by rw[bF];exact h5
 by_cases h6:what=6
 ·subst h6;rw[iP rfl] at HR;have f2:=Ld (FR.out _ HB3.out);generalize uJ ⟨kd,nm,ps,fl,ty,vl,cs⟩=rt at f2 HR;obtain⟨tt,tb,hq⟩:=tJ rt;rw[hq] at f2;have HT:Hid (tt=⟨rw0.toArray⟩):=by
   rw[Hid,HR.out];cases rt with
  |none=>unfold vO at hq;simp at hq;exact hq.1.symm
  |some t=>unfold vO at hq;simp at hq;exact hq.1.symm
  clear FR hk hq;go_wp2_with fail;(with_reducible refine mo f2.out fun w2 hb2=>?_);have HB4:=bt HB3.out hb2;clear f2 hb2;go_wp2;go_ret;rw[HT.out];exact⟨rfl,HB4.out⟩
 ·rw[iN h6] at HR;have e6:(what==6)=false:=(by rw[bF];exact h6);clear FR hk;go_wp2;go_ret;rw[HR.out];exact⟨rfl,HB3.out⟩
theorem yO6{w:World}{B:Nat}{ra:Option Addr}{rn rc b m:Nat}{env:List En}(h:uL w B (.slice ra rn rc) env)(hs:vE env)(hr:kS env)(hv:Vars w)(hm:MaxLenInt w)(ht:TabIs w b m (uI env env.length 0))(n:List UInt8)(hn:n.length<=281474976710656)
  {b2:Nat} {lv:Value} {ls:List (List UInt8)} (hl:w.ownsRow b2 9 1 lv ls.length (ls.map sv)) (hl1:ls.length<=1048576) (hl2:∀ x∈ls,x.length<=1048576) :
  Rt 25 #[.agg #[.slice ra rn rc,.map (some b)],.string ⟨n.toArray⟩,lv] w (vO (rG env n ls)):=by
 obtain⟨la,lc,rfl⟩:=xZ hl;have HB:=Ld (zE w (.cells #[.slice ra rn rc,.map (some b)] 51));have f1:=Ld (gF (ra:=ra) (rn:=rn) (rc:=rc) (ht.below HB.out) n hn);have hLE:uN env n=vW env (yC env n):=rfl;rw[lJ,fnd4,hLE] at f1;have HX:=Ld (xF7 (w:=w) (s:=.slice ra rn rc) (m:=.map (some b)));have hP:=kH env n;have HE:Hid (rG env n ls=mB env (yC env n) ls):=rfl;have FA:=Ld fun (l:Int) (h0:(yC env n).1≠0) (W:World) (hW:Below w.heap.size w W)=>yE2 (h.below hW) hs hr (hv.below hW) (hm.below hW) (b:=b) (r:=((yC env n).1,(yC env n).2.1,(yC env n).2.2,l)) hP h0;have FT:=Ld fun (W:World) (hW:Below w.heap.size w W) (t:List UInt8) (hx:t.length<=1048576)=>mF ⟨t.toArray⟩ (hv.below hW) (by rw[yB];unfold maxLen;omega) (zA hl hW) (fun x hx=>by have:=hl2 x hx;unfold maxLen;omega) (by omega);have hrl:(fI env (yC env n)).length<=1048576:=yJ9 hs hP;generalize rG env n ls=vf at HE |-;generalize yC env n=r at f1 HE hP FA hrl;have HVE:Hid (vf=if (ls.length:Int)≠vW env r then none else yE (fI env r) ls):=by
  rw[Hid,HE.out,mB];by_cases hq:(ls.length:Int)≠vW env r
  ·rw[iP (.inr hq),iP hq]
  ·have h0:r.1≠0:=by
    intro h0;apply hq;unfold vW;rw[iP h0];omega
   rw[iN (fun h=>h.elim h0 hq),iN hq,fI];cases fH env r with
  |none=>exact(dR ls).symm
  |some t=>rfl
 have HN0:Hid ((ls.length:Int)=vW env r->r.1≠0):=by
  intro hq h0;unfold vW at hq;rw[iP h0] at hq;omega
 clear h hs hr hv hm ht hl hl2 hLE HE hP;obtain⟨x0,x1⟩:=HX.out _ (bR _ _);obtain⟨r0,r1,r2⟩:=r;generalize vW env (r0,r1,r2)=mm at f1 HVE HN0;simp only[sN,p3] at f1 FA HN0;go_enter Tryz.func25,Tryz.ntmps25;go_wp2_with fail;(with_reducible refine mo f1.out fun w1 hb1=>?_);have HBX:=Ld (hb1.alloc hb1.size (.cells #[.int .i64 r0,.int .i64 r1,.int .i64 r2,.int .i64 mm] 49));have HB1:=Ld (HB.out.trans (HBX.out.mono HB.out.size));clear hb1 f1 x0 x1;obtain⟨x0,x1⟩:=HX.out _ HBX.out;by_cases hm:(ls.length:Int)=mm;rotate_left
 ·have em:((ls.length:Int) != mm)=true:=(by rw[bne_iff_ne];exact hm);have HF:Hid (vf=none):=(by rw[Hid,HVE.out,iP hm]);clear FA FT HVE hm HN0;go_wp2;refine bodyPost_ret (v:=.tuple #[.string ⟨#[]⟩,.bool false]) (by simp[results,Tryz.results25,go_sem]) rfl ⟨by rw[HF.out];rfl,HB1.out⟩
 ·subst hm;have HF:Hid (vf=yE (fI env (r0,r1,r2)) ls):=(by rw[Hid,HVE.out,iN (fun h=>h rfl)]);have FA2:=Ld (FA.out (ls.length:Int) (HN0.out rfl) _ HB1.out);have FT2:=Ld fun (W:World) (hW:Below w.heap.size w W)=>FT.out W hW _ hrl;generalize fI env (r0,r1,r2)=rw0 at FA2 FT2 HF;generalize yE rw0 ls=tl at FT2 HF;obtain⟨tt,tb,hq⟩:=tJ tl;rw[hq] at FT2;clear FA FT HVE HN0 hrl HX;go_wp2_with fail;(with_reducible refine mo FA2.out fun w3 hb3=>?_);have HB3:=bt HB1.out hb3;have f4:=Ld (FT2.out _ HB3.out);clear FA2 FT2 hb3;go_wp2_with fail;(with_reducible refine mo f4.out fun w4 hb4=>?_);have HB4:=bt HB3.out hb4;clear f4 hb4;go_wp2;refine bodyPost_ret (v:=.tuple #[.string tt,.bool tb]) (by simp[results,Tryz.results25,go_sem]) rfl ⟨by rw[HF.out,hq],HB4.out⟩
theorem zR2{w:World}{B:Nat}{v:Value}{env:List En}(h:uL w B v env)(hs:vE env)(hr:kS env)(hv:Vars w)(hm:MaxLenInt w)(n:List UInt8)(hn:n.length<=281474976710656)
  {b2:Nat} {lv:Value} {ls:List (List UInt8)} (hl:w.ownsRow b2 9 1 lv ls.length (ls.map sv)) (hl1:ls.length<=1048576) (hl2:∀ x∈ls,x.length<=1048576) :
  Rt 11 #[v,.string ⟨n.toArray⟩,lv] w (vO (rG env n ls)):=by
 obtain⟨ra,rc,rfl⟩:=h.len;obtain⟨la,lc,rfl⟩:=xZ hl;have f1:=Ld (nG h hs hr hv hm);have F2:=Ld fun (W:World) (hW:Below w.heap.size w W) (b:Nat) (ht:TabIs W b (zX env).length (uI env env.length 0))=>yO6 (h.below hW) hs hr (hv.below hW) (hm.below hW) ht n hn (zA hl hW) hl1 hl2;generalize rG env n ls=vf at F2 |-;obtain⟨tt,tb,hq⟩:=tJ vf;rw[hq] at F2 |-;clear h hs hr hv hm hl hl2 hq;go_enter Tryz.func11,Tryz.ntmps11;go_wp2_with fail;(with_reducible refine f1.out.mono ?_);rintro e w1 ⟨b,rfl,ht,hb1⟩;have f2:=Ld (F2.out _ hb1 b ht);have HB1:=Ld hb1;clear f1 F2 hb1 ht;go_wp2_with fail;(with_reducible refine mo f2.out fun w2 hb2=>?_);have HB2:=bt HB1.out hb2;clear f2 hb2;go_wp2;refine bodyPost_ret (v:=.tuple #[.string tt,.bool tb]) (by simp[results,Tryz.results11,go_sem]) rfl ⟨rfl,HB2.out⟩
theorem yE1{w:World}{B:Nat}{ra:Option Addr}{rn rc b m:Nat}{env:List En}(h:uL w B (.slice ra rn rc) env)(hs:vE env)(hr:kS env)(hv:Vars w)(hm:MaxLenInt w)(ht:TabIs w b m (uI env env.length 0))(n:List UInt8)(hn:n.length<=281474976710656)
  {b2:Nat} {lv:Value} {ls:List (List UInt8)} (hl:w.ownsRow b2 9 1 lv ls.length (ls.map sv)) (hl1:ls.length<=1048576) (hl2:∀ x∈ls,x.length<=1048576) :
  Rt 26 #[.agg #[.slice ra rn rc,.map (some b)],.string ⟨n.toArray⟩,lv] w (vO (sX env n ls)):=by
 obtain⟨la,lc,rfl⟩:=xZ hl;have HB:=Ld (zE w (.cells #[.slice ra rn rc,.map (some b)] 51));have f1:=Ld (gF (ra:=ra) (rn:=rn) (rc:=rc) (ht.below HB.out) n hn);have hLE:uN env n=vW env (yC env n):=rfl;rw[lJ,fnd4,hLE] at f1;have HX:=Ld (xF7 (w:=w) (s:=.slice ra rn rc) (m:=.map (some b)));have hP:=kH env n;have HE:Hid (sX env n ls=mI env (yC env n) ls):=rfl;have FT:=Ld fun (W:World) (hW:Below w.heap.size w W) (t:List UInt8) (hx:t.length<=1048576)=>mF ⟨t.toArray⟩ (hv.below hW) (by rw[yB];unfold maxLen;omega) (zA hl hW) (fun x hx=>by have:=hl2 x hx;unfold maxLen;omega) (by omega);obtain⟨x0,x1⟩:=HX.out _ (bR _ _);generalize sX env n ls=vf at HE |-;generalize yC env n=r at f1 HE hP;clear ht hLE hl hl2;rcases hP with rfl|⟨j,e,he,hok,hj,hk⟩
 ·have HF:Hid (vf=none):=(by rw[Hid,HE.out,mI,iP (.inl (by decide))]);simp only[sN] at f1;generalize vW env (0,-1,0)=mm at f1;clear h HE hs hr FT;go_enter Tryz.func26,Tryz.ntmps26;go_wp2_with fail;(with_reducible refine mo f1.out fun w1 hb1=>?_);have HB1:=bt HB.out hb1;clear hb1 f1;go_wp2;refine bodyPost_ret (v:=.tuple #[.string ⟨#[]⟩,.bool false]) (by simp[results,Tryz.results26,go_sem]) rfl ⟨by rw[HF.out];rfl,HB1.out.alloc HB1.out.size _⟩
 have hsm:=(hs.2 _ (List.mem_of_getElem? he)).1;obtain⟨g,cap,ua,uc,e1,hjl,hox,HC⟩:=zC2 h he;cases e1;obtain⟨what,ri,rk⟩:=r;simp only at hj;subst hj;simp only[sN] at f1;have HCx:=Ld HC;have t1:=zn j;have t2:(j:Int)<(env.length:Int):=by omega
 have s3:=hsm.value;by_cases h2:what=2;rotate_left
 ·have q2:(what != 2)=true:=(by rw[bne_iff_ne];exact h2);have HF:Hid (vf=none):=(by rw[Hid,HE.out,mI,iP (.inl h2)]);generalize vW env (what,(j:Int),rk)=mm at f1;clear h HE hs hr he hok hk HC hox hsm hv hm FT HCx;go_enter Tryz.func26,Tryz.ntmps26;go_wp2_with fail;(with_reducible refine mo f1.out fun w1 hb1=>?_);have HB1:=bt HB.out hb1;clear hb1 f1;go_wp2;refine bodyPost_ret (v:=.tuple #[.string ⟨#[]⟩,.bool false]) (by simp[results,Tryz.results26,go_sem]) rfl ⟨by rw[HF.out];rfl,HB1.out.alloc HB1.out.size _⟩
 subst h2;have HVE:Hid (vf=if (ls.length:Int)≠vW env (2,(j:Int),rk) then none else yE e.1.value ls):=by
  rw[Hid,HE.out,mI];by_cases hq:(ls.length:Int)≠vW env (2,(j:Int),rk)
  ·rw[iP (.inr hq),iP hq]
  ·rw[iN (fun h=>h.elim (fun h=>h rfl) hq),iN hq];show (match env[((j:Int)).toNat]? with|some e=>yE e.1.value ls|none=>none)=_;rw[Int.toNat_natCast,he]
 clear h HE hs hr he hok hk HC hox hsm hv hm;generalize vW env (2,(j:Int),rk)=mm at f1 HVE;obtain⟨⟨kd,nm,ps,fl,ty,vl,cs⟩,lbs⟩:=e;simp only at HCx HVE s3;go_enter Tryz.func26,Tryz.ntmps26;go_wp2_with fail;(with_reducible refine mo f1.out fun w1 hb1=>?_);have HB1:=Ld (hb1.alloc hb1.size (.cells #[.int .i64 2,.int .i64 j,.int .i64 rk,.int .i64 mm] 49));have HB2:=Ld (HB.out.trans (HB1.out.mono HB.out.size));obtain⟨y0,y1⟩:=HX.out _ HB1.out;clear hb1 f1 x0 x1 HX;by_cases hm:(ls.length:Int)=mm;rotate_left
 ·have em:((ls.length:Int) != mm)=true:=(by rw[bne_iff_ne];exact hm);have HF:Hid (vf=none):=(by rw[Hid,HVE.out,iP hm]);clear FT HCx HVE hm;go_wp2;refine bodyPost_ret (v:=.tuple #[.string ⟨#[]⟩,.bool false]) (by simp[results,Tryz.results26,go_sem]) rfl ⟨by rw[HF.out];rfl,HB2.out⟩
 ·subst hm;have HF:Hid (vf=yE vl ls):=(by rw[Hid,HVE.out,iN (fun h=>h rfl)]);obtain⟨c0,c1,c2,c3,c4,c5,c6⟩:=HCx.out _ HB2.out;have f3:=Ld (FT.out _ HB2.out vl s3);generalize yE vl ls=tl at f3 HF;obtain⟨tt,tb,hq⟩:=tJ tl;rw[hq] at f3;clear FT HCx HVE;go_wp2_with fail;(with_reducible refine mo f3.out fun w3 hb3=>?_);have HB5:=bt HB2.out hb3;clear f3 hb3;go_wp2;refine bodyPost_ret (v:=.tuple #[.string tt,.bool tb]) (by simp[results,Tryz.results26,go_sem]) rfl ⟨by rw[HF.out,hq],HB5.out⟩
theorem zI6{w:World}{B:Nat}{v:Value}{env:List En}(h:uL w B v env)(hs:vE env)(hr:kS env)(hv:Vars w)(hm:MaxLenInt w)(n:List UInt8)(hn:n.length<=281474976710656)
  {b2:Nat} {lv:Value} {ls:List (List UInt8)} (hl:w.ownsRow b2 9 1 lv ls.length (ls.map sv)) (hl1:ls.length<=1048576) (hl2:∀ x∈ls,x.length<=1048576) :
  Rt 12 #[v,.string ⟨n.toArray⟩,lv] w (vO (sX env n ls)):=by
 obtain⟨ra,rc,rfl⟩:=h.len;obtain⟨la,lc,rfl⟩:=xZ hl;have f1:=Ld (nG h hs hr hv hm);have F2:=Ld fun (W:World) (hW:Below w.heap.size w W) (b:Nat) (ht:TabIs W b (zX env).length (uI env env.length 0))=>yE1 (h.below hW) hs hr (hv.below hW) (hm.below hW) ht n hn (zA hl hW) hl1 hl2;generalize sX env n ls=vf at F2 |-;obtain⟨tt,tb,hq⟩:=tJ vf;rw[hq] at F2 |-;clear h hs hr hv hm hl hl2 hq;go_enter Tryz.func12,Tryz.ntmps12;go_wp2_with fail;(with_reducible refine f1.out.mono ?_);rintro e w1 ⟨b,rfl,ht,hb1⟩;have f2:=Ld (F2.out _ hb1 b ht);have HB1:=Ld hb1;clear f1 F2 hb1 ht;go_wp2_with fail;(with_reducible refine mo f2.out fun w2 hb2=>?_);have HB2:=bt HB1.out hb2;clear f2 hb2;go_wp2;refine bodyPost_ret (v:=.tuple #[.string tt,.bool tb]) (by simp[results,Tryz.results12,go_sem]) rfl ⟨rfl,HB2.out⟩
theorem zB6{w:World}{B:Nat}{v:Value}{env:List En}(h:uL w B v env)(hs:vE env)(hr:kS env)(hv:Vars w)(hm:MaxLenInt w)(n:List UInt8)(hn:n.length<=281474976710656) :
  Rt 10 #[v,.string ⟨n.toArray⟩] w (.int .i64 (uN env n)):=by
 obtain⟨ra,rc,rfl⟩:=h.len;have f1:=Ld (nG h hs hr hv hm);have HE:=lJ (env:=env) n;unfold fnd4 at HE;generalize uN env n=r3 at HE |-;generalize yC env n=r at HE;obtain⟨r0,r1,r2⟩:=r;simp only at HE;clear h hs hr hv hm;have hfield:∀ (W:World),(Instr.field 49 (.agg #[.int .i64 r0,.int .i64 r1,.int .i64 r2,.int .i64 r3]) 3).run Tryz.prog W=.ok (.int .i64 r3) W:=fun W=>by kernel_rfl
 go_enter Tryz.func10,Tryz.ntmps10;go_wp2_with fail;(with_reducible refine f1.out.mono ?_);rintro e w1 ⟨b,rfl,ht,hb1⟩;have f2:=Ld (gF (ra:=ra) (rn:=env.length) (rc:=rc) ht n hn);rw[HE] at f2;simp only[sN] at f2;have HB1:=Ld hb1;clear f1 HE hb1 ht;go_wp2_with fail;(with_reducible refine mo f2.out fun w2 hb2=>?_);have HB2:=bt HB1.out hb2;clear f2 hb2;go_wp2;go_ret;exact⟨rfl,HB2.out⟩
end Go.Proofs.YtgppcegcpiaocaaGreatDoor
