/- ShelfK QIk -/
import Derived.Shelf.SlIter.Nil
import Derived.Shelf.SortM.Plain
import Derived.Shelf.SortM.SortNone
import Derived.Ground.GgzProg
import Derived.Ground.SlgmProg
import Derived.Test.YtcaahdjhbmmcnaaGreatDoorProg
import Derived.Test.YtcaahdjhbmmcnaaGreatDoorYQJ
set_option maxRecDepth 100000
set_option maxHeartbeats 16000000
set_option linter.unusedSimpArgs false
set_option linter.unusedVariables false
namespace Go.Proofs
open Go.Shelf
def Tryz.keys42_ren:Go.Shelf.Ren:=⟨fun | 7=>41 | 10=>64 | n=>n,fun | 23=>59 | 26=>9 | 3=>58 | 28=>71 | 0=>0 | 27=>70 | 33=>86 | 4=>4 | n=>n,fun | n=>n⟩
theorem Tryz.keys42:Go.Proofs.SlLaysZ.n7 Tryz.prog Tryz.keys42_ren:={
 mixed:=by kernel_rfl
 f7:=⟨Tryz.f41.name,by decide,Tryz.func41.trans (congrArg some (by kernel_rfl))⟩
 f10:=⟨Tryz.f64.name,by decide,Tryz.func64.trans (congrArg some (by kernel_rfl))⟩
 t0:=Tryz.underlying0
 a0:=Tryz.isAgg0
 z0:=Tryz.sizeOf0
 v0:=Tryz.zeroValue0
 t4:=Tryz.underlying4
 a4:=Tryz.isAgg4
 z4:=Tryz.sizeOf4
 v4:=Tryz.zeroValue4
 t23:=Tryz.underlying59
 a23:=Tryz.isAgg59
 z23:=Tryz.sizeOf59
 v23:=Tryz.zeroValue59
 t26:=Tryz.underlying9
 a26:=Tryz.isAgg9
 z26:=Tryz.sizeOf9
 v26:=Tryz.zeroValue9
 t27:=Tryz.underlying70
 a27:=Tryz.isAgg70
 z27:=Tryz.sizeOf70
 v27:=Tryz.zeroValue70
 t28:=Tryz.underlying71
 a28:=Tryz.isAgg71
 z28:=Tryz.sizeOf71
 v28:=Tryz.zeroValue71
 t33:=Tryz.underlying86
 a33:=Tryz.isAgg86
 z33:=Tryz.sizeOf86
 v33:=Tryz.zeroValue86 }
def Tryz.sorted41_ren:Go.Shelf.Ren:=⟨fun | 6=>40 | 8=>62 | 9=>63 | 11=>94 | 13=>96 | 12=>95 | 23=>150 | 24=>151 | 14=>141 | 15=>142 | 16=>143 | 17=>144 | 18=>145 | 19=>146 | 20=>147 | 21=>148 | 22=>149 | 25=>194 | 26=>195 | 27=>196 | 28=>197 | 29=>198 | 30=>199 | 31=>229 | n=>n,fun | 26=>9 | 28=>71 | 24=>31 | 0=>0 | 3=>3 | 37=>135 | 48=>170 | 50=>172 | 4=>4 | 40=>163 | 39=>162 | 45=>167 | 5=>5 | 9=>9 | 51=>206 | 55=>210 | 57=>257 | 58=>128 | 33=>86 | n=>n,fun | n=>n⟩
theorem Tryz.sorted41:Go.Proofs.SlLaysZ.n6 Tryz.prog Tryz.sorted41_ren:={
 mixed:=by kernel_rfl
 f6:=⟨Tryz.f40.name,by decide,Tryz.func40.trans (congrArg some (by kernel_rfl))⟩
 f8:=⟨Tryz.f62.name,by decide,Tryz.func62.trans (congrArg some (by kernel_rfl))⟩
 f11:=⟨Tryz.f94.name,by decide,Tryz.func94.trans (congrArg some (by kernel_rfl))⟩
 t0:=Tryz.underlying0
 a0:=Tryz.isAgg0
 z0:=Tryz.sizeOf0
 v0:=Tryz.zeroValue0
 t24:=Tryz.underlying31
 a24:=Tryz.isAgg31
 z24:=Tryz.sizeOf31
 v24:=Tryz.zeroValue31
 t26:=Tryz.underlying9
 a26:=Tryz.isAgg9
 z26:=Tryz.sizeOf9
 v26:=Tryz.zeroValue9
 t28:=Tryz.underlying71
 a28:=Tryz.isAgg71
 z28:=Tryz.sizeOf71
 v28:=Tryz.zeroValue71
 i26:=by kernel_rfl }
def Tryz.sort65_ren:Go.Shelf.Ren:=⟨fun | 6=>63 | 8=>96 | 9=>95 | 19=>150 | 20=>151 | 21=>141 | 22=>142 | 23=>143 | 24=>144 | 25=>145 | 26=>146 | 27=>147 | 28=>148 | 29=>149 | 36=>194 | 31=>195 | 32=>196 | 37=>197 | 38=>198 | 39=>199 | 41=>229 | n=>n,fun | 27=>31 | 29=>9 | 3=>3 | 32=>135 | 26=>31 | 0=>0 | 44=>170 | 46=>172 | 4=>4 | 36=>163 | 35=>162 | 41=>167 | 5=>5 | 9=>9 | 53=>206 | 57=>210 | 63=>257 | 64=>128 | n=>n,fun | n=>n⟩
theorem Tryz.sort65:Go.Proofs.SlLaysM.n6 Tryz.prog Tryz.sort65_ren:={
 mixed:=by kernel_rfl
 f6:=⟨Tryz.f63.name,by decide,Tryz.func63.trans (congrArg some (by kernel_rfl))⟩
 f8:=Tryz.func96.trans (congrArg some (by kernel_rfl))
 f9:=⟨Tryz.f95.name,by decide,Tryz.func95.trans (congrArg some (by kernel_rfl))⟩
 f19:=Tryz.func150.trans (congrArg some (by kernel_rfl))
 f20:=Tryz.func151.trans (congrArg some (by kernel_rfl))
 f21:=⟨Tryz.f141.name,by decide,Tryz.func141.trans (congrArg some (by kernel_rfl))⟩
 f22:=⟨Tryz.f142.name,by decide,Tryz.func142.trans (congrArg some (by kernel_rfl))⟩
 f23:=⟨Tryz.f143.name,by decide,Tryz.func143.trans (congrArg some (by kernel_rfl))⟩
 f24:=⟨Tryz.f144.name,by decide,Tryz.func144.trans (congrArg some (by kernel_rfl))⟩
 f25:=⟨Tryz.f145.name,by decide,Tryz.func145.trans (congrArg some (by kernel_rfl))⟩
 f26:=⟨Tryz.f146.name,by decide,Tryz.func146.trans (congrArg some (by kernel_rfl))⟩
 f27:=⟨Tryz.f147.name,by decide,Tryz.func147.trans (congrArg some (by kernel_rfl))⟩
 f28:=⟨Tryz.f148.name,by decide,Tryz.func148.trans (congrArg some (by kernel_rfl))⟩
 f29:=⟨Tryz.f149.name,by decide,Tryz.func149.trans (congrArg some (by kernel_rfl))⟩
 f31:=Tryz.func195.trans (congrArg some (by kernel_rfl))
 f32:=Tryz.func196.trans (congrArg some (by kernel_rfl))
 f36:=⟨Tryz.f194.name,by decide,Tryz.func194.trans (congrArg some (by kernel_rfl))⟩
 f37:=⟨Tryz.f197.name,by decide,Tryz.func197.trans (congrArg some (by kernel_rfl))⟩
 f38:=⟨Tryz.f198.name,by decide,Tryz.func198.trans (congrArg some (by kernel_rfl))⟩
 f39:=⟨Tryz.f199.name,by decide,Tryz.func199.trans (congrArg some (by kernel_rfl))⟩
 f41:=⟨Tryz.f229.name,by decide,Tryz.func229.trans (congrArg some (by kernel_rfl))⟩
 t0:=Tryz.underlying0
 a0:=Tryz.isAgg0
 z0:=Tryz.sizeOf0
 v0:=Tryz.zeroValue0
 t3:=Tryz.underlying3
 a3:=Tryz.isAgg3
 z3:=Tryz.sizeOf3
 v3:=Tryz.zeroValue3
 t4:=Tryz.underlying4
 a4:=Tryz.isAgg4
 z4:=Tryz.sizeOf4
 v4:=Tryz.zeroValue4
 t5:=Tryz.underlying5
 a5:=Tryz.isAgg5
 z5:=Tryz.sizeOf5
 v5:=Tryz.zeroValue5
 t9:=Tryz.underlying9
 a9:=Tryz.isAgg9
 z9:=Tryz.sizeOf9
 v9:=Tryz.zeroValue9
 t26:=Tryz.underlying31
 a26:=Tryz.isAgg31
 z26:=Tryz.sizeOf31
 v26:=Tryz.zeroValue31
 t27:=Tryz.underlying31
 a27:=Tryz.isAgg31
 z27:=Tryz.sizeOf31
 v27:=Tryz.zeroValue31
 t29:=Tryz.underlying9
 a29:=Tryz.isAgg9
 z29:=Tryz.sizeOf9
 v29:=Tryz.zeroValue9
 t32:=Tryz.underlying135
 a32:=Tryz.isAgg135
 z32:=Tryz.sizeOf135
 v32:=Tryz.zeroValue135
 t35:=Tryz.underlying162
 a35:=Tryz.isAgg162
 z35:=Tryz.sizeOf162
 v35:=Tryz.zeroValue162
 t36:=Tryz.underlying163
 a36:=Tryz.isAgg163
 z36:=Tryz.sizeOf163
 v36:=Tryz.zeroValue163
 t41:=Tryz.underlying167
 a41:=Tryz.isAgg167
 z41:=Tryz.sizeOf167
 v41:=Tryz.zeroValue167
 t44:=Tryz.underlying170
 a44:=Tryz.isAgg170
 z44:=Tryz.sizeOf170
 v44:=Tryz.zeroValue170
 t46:=Tryz.underlying172
 a46:=Tryz.isAgg172
 z46:=Tryz.sizeOf172
 v46:=Tryz.zeroValue172
 t53:=Tryz.underlying206
 a53:=Tryz.isAgg206
 z53:=Tryz.sizeOf206
 v53:=Tryz.zeroValue206
 t57:=Tryz.underlying210
 a57:=Tryz.isAgg210
 z57:=Tryz.sizeOf210
 v57:=Tryz.zeroValue210
 t63:=Tryz.underlying257
 a63:=Tryz.isAgg257
 z63:=Tryz.sizeOf257
 v63:=Tryz.zeroValue257
 t64:=Tryz.underlying128
 a64:=Tryz.isAgg128
 z64:=Tryz.sizeOf128
 v64:=Tryz.zeroValue128 }
end Go.Proofs
namespace Go.Proofs.YtcaahdjhbmmcnaaGreatDoor
open Go.ChangeShapes Go.WideShapes Go.ChangeAt Go.RowKit Go.Maps Go.Sort
theorem sortsAt (m:Nat):AnyZ.SortsIn Tryz.prog Tryz.sorted41_ren Fence.wide m :=
  ⟨fun blk off cap ss W hH hblk hsz=>callsIn_wide.2 (AnyM.slices_Sort_string Tryz.sort65 blk off cap ss W hH hblk hsz),
   fun p cap W=>callsIn_wide.2 (AnyM.slices_Sort_string_none Tryz.sort65 p cap W)⟩
theorem keysAt (mb:Option Nat) (W:World):Calls Tryz.prog 41 #[.map mb] W fun e w'=>e=.returned (.func (.func 64) #[] #[.pointer (some ⟨W.heap.size,0,none⟩)])/\w'=W.alloc (.cells #[.map mb] 59) :=
  callsIn_wide.1 (AnyZ.keys_in Tryz.keys42 Fence.wide 5 trivial rfl mb W)
theorem sortedAt {H:Type} (b nn:Nat) (D0:DataW H) (R:Value->Option (DataW H × List MemPlace)) (w:World) (hown:w.ownsMap Tryz.prog 9 R b nn D0) (hmax:Maps.size D0<=maxLen) (hbytes:Maps.size D0*16<=140737488355328) :
    Calls Tryz.prog 40 #[.func (.func 64) #[] #[.pointer (some ⟨w.heap.size,0,none⟩)]] (w.alloc (.cells #[.map (some b)] 59)) fun e w'=>∃ (v:Value) (ss:List (List UInt8)),e=.returned v/\ss.Perm (strKeys D0) /\
      w'.ownsRow (w.alloc (.cells #[.map (some b)] 59)).heap.size 9 1 v ss.length ((ss.mergeSort (fun x y=>decide (x<=y))).map encStr)/\(v=.slice none 0 0↔ss=[])/\Below (w.alloc (.cells #[.map (some b)] 59)).heap.size (w.alloc (.cells #[.map (some b)] 59)) w':=by
  have hbl:=hown.lt
  have hseq:SeqGives Fence.wide 2 Tryz.prog 64 #[.pointer (some ⟨w.heap.size,0,none⟩)] encStr (fun ss=>ss.Perm (strKeys D0)) (Maps.size D0) (w.alloc (.cells #[.map (some b)] 59)) :=
    AnyZ.keys_gives (ρ:=Tryz.keys42_ren) { Tryz.keys42 with } Fence.wide _ trivial rfl (by omega) w.heap.size b nn D0 _ (by simp) (by simp) (by
      obtain ⟨es,clock,hb,Ft,hs,hD⟩:=hown
      exact ⟨es,clock,(Below.heap_alloc _ _ b hbl).trans hb,Ft,hs,hD⟩)
  exact callsIn_wide.1 (AnyZ.sorted_in Tryz.sorted41 Fence.wide 5 trivial trivial trivial trivial rfl (by omega) (sortsAt _) (enters_of Tryz.func63 (by kernel_rfl) rfl) 64 #[.pointer (some ⟨w.heap.size,0,none⟩)] trivial (enters_of Tryz.func64 (by kernel_rfl) rfl) _ _ hmax hbytes _ hseq)
theorem TabIs.keys {w:World} {b m:Nat} {G:List UInt8->Option Pl} (h:TabIs w b m G) {l:List (List UInt8)} (hl:∀ s,(G s).isSome=true↔s∈l) :
    ∃ D:DataW Unit,w.ownsMap Tryz.prog 9 placeElem b m D/\Maps.size D<=m/\∀ ss:List (List UInt8),ss.Perm (strKeys D)->ss.mergeSort (fun x y=>decide (x<=y))=srt l:=by
  obtain ⟨D,h1,h2⟩:=h
  refine ⟨D,h1,h1.size_le,fun ss hp=>?_⟩
  obtain ⟨ha,hm,_⟩:=srt_spec l.length l (nR _)
  obtain ⟨es,rfl,hpw⟩:=h1.tidy strLaw
  obtain ⟨es',he,hk⟩:=h1.keysOf
  obtain rfl:es=es':=by injection he
  have hnd:(srt l).Nodup:=ha.imp (fun h=>lt_ne h)
  have hq:(srt l).Perm (strKeys (.map es)):=perm_strKeys hpw (fun p hp=>by
    obtain ⟨key,hkey⟩:=hk p hp
    obtain ⟨x,_,hx,_⟩:=Maps.keyOf_str Tryz.underlying9 hkey
    exact ⟨x,hx⟩) hnd (fun x=>by rw [hm x,← hl x,← (h2 x).1])
  rw [show (fun x y:List UInt8=>decide (x<=y))=leB from rfl,mergeSort_of_perm (hp.trans hq.symm)]
  refine List.mergeSort_of_pairwise (ha.imp fun h=>?_)
  simp only [leB,decide_eq_true_eq]
  exact List.le_of_lt h
theorem implKnownE {w:World} {B:Nat} {v:Value} {env:List En} (h:EnvIs w B v env) (hs:EnvSmall env) (hr:EnvRng env) (hv:Vars w) (hm:MaxLenInt w) (hl:(knownAll env).length<=1000000) :
    Calls Tryz.prog 23 #[v] w (LRes' (known env) w):=by
  obtain ⟨ra,rc,rfl⟩:=h.len
  have f1:=Ld (implEnvOf h hs hr hv hm)
  have F2:=Ld fun (W:World) (b:Nat) (ht:TabIs W b (knownAll env).length (tabAt env env.length 0))=>ht.keys (l:=knownAll env) (fun s=>tabAt_known s)
  clear h hs hr hv hm
  unfold LRes'
  have hfield:∀ (W:World) (m:Option Nat),(Instr.field 61 (.agg #[.slice ra env.length rc,.map m]) 1).run Tryz.prog W=.ok (.map m) W:=fun W m=>by kernel_rfl
  go_enter Tryz.func23,Tryz.ntmps23
  go_wp2_with fail
  (with_reducible refine f1.out.mono ?_);rintro e w1 ⟨b,rfl,ht,hb1⟩
  obtain ⟨D,hown,hsz,hk⟩:=F2.out _ b ht
  have f2:=Ld (keysAt (some b) w1)
  have f3:=Ld (sortedAt b _ D placeElem w1 hown (by unfold maxLen;omega) (by omega))
  have HK:=Ld hk
  have HB1:=Ld hb1
  clear f1 F2 hb1 ht hown hk
  go_wp2_with fail
  (with_reducible refine mo f2.out ?_);rintro w2 rfl
  go_wp2_with fail
  (with_reducible refine f3.out.mono ?_);rintro e w3 ⟨v3,ss,rfl,hp,hrow,_,hb3⟩
  have HV:Hid (w3.ownsRow w.heap.size 9 1 v3 (known env).length ((known env).map sv)):=by
    have hlen:ss.length=(known env).length:=by
      rw [show known env=srt (knownAll env) from rfl,← HK.out ss hp,List.length_mergeSort]
    rw [Hid,← hlen,show known env=srt (knownAll env) from rfl,← HK.out ss hp]
    exact own_lower hrow (by have:=HB1.out.size;simp;omega)
  have HB3:=Ld ((HB1.out.alloc HB1.out.size _).trans (hb3.mono (HB1.out.alloc HB1.out.size _).size))
  clear f2 f3 hp hrow hb3 HK
  go_wp2
  go_ret
  exact ⟨_,rfl,HV.out,HB3.out⟩
end Go.Proofs.YtcaahdjhbmmcnaaGreatDoor
