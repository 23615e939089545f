/- IntsP UVal Dr2 VParU UWit GAny -/
import Derived.ChangeSlices
import Derived.StillTailTactics
import Derived.Test.YtgonemalnljabaaGreatDoorXBase
import Derived.Test.YtgonemalnljabaaGreatDoorXG1
import Derived.Test.YtgonemalnljabaaGreatDoorXE1
import Derived.Test.YtgonemalnljabaaGreatDoorXV1
import Derived.Test.YtgonemalnljabaaGreatDoorXA6
set_option maxRecDepth 100000
set_option maxHeartbeats 16000000
set_option linter.unusedSimpArgs false
set_option linter.unusedVariables false
namespace Go.Proofs.YtgonemalnljabaaGreatDoor
open Go.ChangeShapes Go.WideShapes Go.ChangeAt Go.RowKit
def iv (x:Int):Value:=.int .i64 x
theorem own_sliceI {w:World} {b n:Nat} {v:Value} {xs:List Value} (h:w.ownsRow b 3 1 v n xs):∃ a cap,v=.slice a n cap:=by
 rcases h.2 with ⟨rfl,rfl⟩ | ⟨g,cap,cur,rfl,_⟩
 ·exact ⟨_,_,rfl⟩
 ·exact ⟨_,_,rfl⟩
def CameI (w:World) (v:Value) (l:List Int):Prop :=
 ∃ (a0:Option Addr) (cap b off:Nat),v=.slice a0 l.length cap∧(0 < l.length→a0=some ⟨b,off,none⟩∧b < w.heap.size)∧(∀ j (h:j < l.length),w.cell? ⟨b,off+j,none⟩=some (iv l[j]))∧l.length≤maxLen
theorem CameI.below {w w':World} {v:Value} {l:List Int} (h:CameI w v l) (hb:Below w.heap.size w w'):CameI w' v l:=by
 obtain ⟨a0,cap,b,off,h1,h2,h3,h4⟩:=h
 refine ⟨a0,cap,b,off,h1,fun h0=>⟨(h2 h0).1,Nat.lt_of_lt_of_le (h2 h0).2 hb.size⟩,fun j hj=>?_,h4⟩
 rw [hb.cell (p:=⟨b,off+j,none⟩) (h2 (by omega)).2]
 exact h3 j hj
theorem infoInt:(Tryz.prog.info? 3).map (fun i=>(i.zero,i.size,i.bytes))=some (some (.int .i64 0),1,8):=by kernel_rfl
def IRes (r:List Int) (w:World) (e:Ending) (w':World):Prop :=
 ∃ v,e=.returned v∧w'.ownsRow w.heap.size 3 1 v r.length (r.map iv)∧Below w.heap.size w w'
theorem drop_at {l:List UInt8} {p:Nat} {c:UInt8} {r:List UInt8} (h:l.drop p=c :: r):∃ hp:p < l.length,l[p]=c∧l.drop (p+1)=r:=by
 have hp:p < l.length:=by
  by_cases hp:p < l.length
  ·exact hp
  ·rw [List.drop_eq_nil_of_le (by omega)] at h;cases h
 rw [List.drop_eq_getElem_cons hp] at h
 injection h with h1 h2
 exact ⟨hp,h1,h2⟩
theorem asV_le {vs:List Int} (hv:∀ x∈vs,0≤x∧x≤1000) (k:Fin 3):asV (vs.map Int.toNat) k≤1000:=by
 unfold asV
 by_cases hk:k.val < vs.length
 ·have:(vs.map Int.toNat).getD k.val 0=(vs[k.val]).toNat:=by simp [hk]
  rw [this]
  have:=hv _ (List.getElem_mem hk)
  omega
 ·have:(vs.map Int.toNat).getD k.val 0=0:=by simp [List.getD,List.getElem?_eq_none (show vs.length≤k.val by omega)]
  omega
theorem asV_at {vs:List Int} (hv:∀ x∈vs,0≤x∧x≤1000) (k:Fin 3) (hk:k.val < vs.length):vs[k.val]=(asV (vs.map Int.toNat) k:Int):=by
 unfold asV
 have:(vs.map Int.toNat).getD k.val 0=(vs[k.val]).toNat:=by simp [hk]
 rw [this]
 have:=hv _ (List.getElem_mem hk)
 omega
end Go.Proofs.YtgonemalnljabaaGreatDoor
namespace Go.Proofs.YtgonemalnljabaaGreatDoor
def own3:List (List UInt8):=[[117,48],[117,49],[117,50]]
def zer3:List (List UInt8):=[[122],[122],[122]]
def Reads (t:List UInt8):Prop:=∀ n r,lend (n+1) (t ++ r)=(lend n r).map (·+t.length)
structure LvP (t:List UInt8):Prop where
 pos:0 < t.length
 run:Reads t
 same:∀ r,putF own3 (t ++ r)=t ++ putF own3 r
 zs:∃ t',(∀ r,putF zer3 (t ++ r)=t' ++ putF zer3 r)∧t'.length≤t.length∧Reads t'∧t'.count 43=t.count 43∧117∉t'
theorem reads_z:Reads [122]:=fun n r=>lend_z n r
theorem reads_par {d:UInt8} (h1:48≤d.toNat) (h2:d.toNat≤50):Reads [117,d]:=fun n r=>lend_par n h1 h2 r
theorem reads_up {t:List UInt8} (h:Reads t):Reads (43 :: t):=fun n r=>by
 rw [List.cons_append,lend_up,h,Option.map_map]
 congr 1
theorem reads_two {c:UInt8} (hc:c=109∨c=105) {a b:List UInt8} (ha:Reads a) (hb:Reads b):Reads (c :: (a ++ b)):=fun n r=>by
 rw [List.cons_append,lend_two n hc,List.append_assoc,ha,hb,Option.map_map,Option.map_map]
 congr 1
 funext x
 simp
 omega
theorem LvP.z:LvP [122] where
 pos:=by decide
 run:=reads_z
 same r:=putF_step _ (by decide) r
 zs:=⟨[122],fun r=>putF_step _ (by decide) r,Nat.le_refl _,reads_z,rfl,by decide⟩
theorem LvP.par {d:UInt8} (h1:48≤d.toNat) (h2:d.toNat≤50):LvP [117,d] where
 pos:=by simp
 run:=reads_par h1 h2
 same r:=by
  have hd:d=48∨d=49∨d=50:=by
   rcases (by omega:d.toNat=48∨d.toNat=49∨d.toNat=50) with h | h | h
   ·exact .inl (UInt8.toNat_inj.1 h)
   ·exact .inr (.inl (UInt8.toNat_inj.1 h))
   ·exact .inr (.inr (UInt8.toNat_inj.1 h))
  show putF own3 (117 :: d :: r)=_
  rw [putF_par]
  rcases hd with rfl | rfl | rfl<;>rfl
 zs:=by
  have hd:d=48∨d=49∨d=50:=by
   rcases (by omega:d.toNat=48∨d.toNat=49∨d.toNat=50) with h | h | h
   ·exact .inl (UInt8.toNat_inj.1 h)
   ·exact .inr (.inl (UInt8.toNat_inj.1 h))
   ·exact .inr (.inr (UInt8.toNat_inj.1 h))
  refine ⟨[122],fun r=>?_,by simp,reads_z,?_,by decide⟩
  ·show putF zer3 (117 :: d :: r)=_
   rw [putF_par]
   rcases hd with rfl | rfl | rfl<;>rfl
  ·rcases hd with rfl | rfl | rfl<;>decide
theorem LvP.up {t:List UInt8} (h:LvP t):LvP (43 :: t) where
 pos:=by simp
 run:=reads_up h.run
 same r:=by rw [List.cons_append,putF_step _ (by decide),h.same];rfl
 zs:=by
  obtain ⟨t',h1,h2,h3,h4,h5⟩:=h.zs
  refine ⟨43 :: t',fun r=>by rw [List.cons_append,putF_step _ (by decide),h1];rfl,by simpa using h2,reads_up h3,by simp [h4],?_⟩
  intro hm
  rcases List.mem_cons.1 hm with e | e
  ·exact absurd e (by decide)
  ·exact h5 e
theorem LvP.two {c:UInt8} (hc:c=109∨c=105) {a b:List UInt8} (ha:LvP a) (hb:LvP b):LvP (c :: (a ++ b)) where
 pos:=by simp
 run:=reads_two hc ha.run hb.run
 same r:=by
  have h1:c≠117:=by rcases hc with rfl | rfl<;>decide
  rw [List.cons_append,putF_step _ h1,List.append_assoc,ha.same,hb.same]
  simp
 zs:=by
  have h1:c≠117:=by rcases hc with rfl | rfl<;>decide
  have h43:c≠43:=by rcases hc with rfl | rfl<;>decide
  obtain ⟨a',a1,a2,a3,a4,a5⟩:=ha.zs
  obtain ⟨b',b1,b2,b3,b4,b5⟩:=hb.zs
  refine ⟨c :: (a' ++ b'),fun r=>?_,by simp;omega,reads_two hc a3 b3,by simp [h43,a4,b4],?_⟩
  ·rw [List.cons_append,putF_step _ h1,List.append_assoc,a1,b1]
   simp
  ·intro hm
   rcases List.mem_cons.1 hm with e | e
   ·exact h1 e.symm
   ·rcases List.mem_append.1 e with e | e
    ·exact a5 e
    ·exact b5 e
theorem Reads.whole {t:List UInt8} (h:Reads t):lend 1 t=some t.length:=by
 have:=h 0 []
 rw [List.append_nil,lend_zero] at this
 simpa using this
theorem Reads.ok {t:List UInt8} (h:Reads t) (hl:t.length≤60):levelOk t=true:=by
 rw [levelOk,h.whole]
 simp [hl]
structure TwoP (a b:List UInt8):Prop where
 own:levelPut a own3=some a
 zer:∃ t,levelPut (43 :: a) zer3=some t∧levelParams t=0∧levelUps t=levelUps a+1
 ok:levelOk a=true
 end0:levelEnd (a ++ b) 0=a.length
 end1:levelEnd (a ++ b) (a.length:Int)=(a.length:Int)+b.length
 ups:levelUps (109 :: (a ++ b))=levelUps a+levelUps b
 not:levelOk (a ++ b)=false
end Go.Proofs.YtgonemalnljabaaGreatDoor
namespace Go.Proofs.YtgonemalnljabaaGreatDoor
open Go.ChangeShapes Go.WideShapes Go.ChangeAt Go.RowKit
def natV (x:Nat):Value:=iv (x:Int)
def WitRes (r:Option (List Nat)) (w:World) (e:Ending) (w':World):Prop :=
 ∃ v,e=.returned (.tuple #[v,.bool r.isSome])∧w'.ownsRow w.heap.size 3 1 v (r.getD []).length ((r.getD []).map natV)∧Below w.heap.size w w'
theorem tryOne_le {k:Nat} (hk:2≤k) (i:Nat):tryOne k i≤k:=by unfold tryOne;split;omega;split<;>omega
theorem tri_form {x y z k:Nat} (hy:y < 3) (hz:z < 3):tryTri k (9*x+3*y+z)=[tryOne k x,tryOne k y,tryOne k z]:=by
 rw [tryTri,show (9*x+3*y+z) / 9=x by omega,show (9*x+3*y+z) / 3 % 3=y by omega,show (9*x+3*y+z) % 3=z by omega]
theorem anyBox {w:World} {kd ps fl:Int} {nm ty vl:List UInt8} {u:Value} {T:TypeId}:∀ W,Below (w.alloc (.cells #[.int .i64 kd,.string ⟨nm.toArray⟩,.int .i64 ps,.int .i64 fl,.string ⟨ty.toArray⟩,.string ⟨vl.toArray⟩,u] T)).heap.size (w.alloc (.cells #[.int .i64 kd,.string ⟨nm.toArray⟩,.int .i64 ps,.int .i64 fl,.string ⟨ty.toArray⟩,.string ⟨vl.toArray⟩,u] T)) W→W.cell? ⟨w.heap.size,0,none⟩=some (.int .i64 kd)∧W.cell? ⟨w.heap.size,1,none⟩=some (.string ⟨nm.toArray⟩)∧W.cell? ⟨w.heap.size,2,none⟩=some (.int .i64 ps)∧W.cell? ⟨w.heap.size,3,none⟩=some (.int .i64 fl)∧W.cell? ⟨w.heap.size,4,none⟩=some (.string ⟨ty.toArray⟩)∧W.cell? ⟨w.heap.size,5,none⟩=some (.string ⟨vl.toArray⟩)∧W.cell? ⟨w.heap.size,6,none⟩=some (u):=by
 intro W hb
 have h:=fun i=>hb.cell (p:=⟨w.heap.size,i,none⟩) (by simp)
 have k:=World.news_of_block (cs:=#[.int .i64 kd,.string ⟨nm.toArray⟩,.int .i64 ps,.int .i64 fl,.string ⟨ty.toArray⟩,.string ⟨vl.toArray⟩,u]) (t:=T) (fr:=(0,0)) (heap_alloc_new w _)
 exact ⟨(h 0).trans (k 0 _ rfl),(h 1).trans (k 1 _ rfl),(h 2).trans (k 2 _ rfl),(h 3).trans (k 3 _ rfl),(h 4).trans (k 4 _ rfl),(h 5).trans (k 5 _ rfl),(h 6).trans (k 6 _ rfl)⟩
end Go.Proofs.YtgonemalnljabaaGreatDoor
