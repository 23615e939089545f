/- Dr2 -/
import Derived.Test.YtgonemalnljabaaGreatDoorVV1
set_option maxRecDepth 100000
set_option maxHeartbeats 16000000
set_option linter.unusedSimpArgs false
set_option linter.unusedVariables false
namespace Go.Proofs.YtgonemalnljabaaGreatDoor
def own3:List (List UInt8):=[[117,48],[117,49],[117,50]]
def zer3:List (List UInt8):=[[122],[122],[122]]
def Reads (t:List UInt8):Prop:=∀ n r,lend (n+1) (t ++ r)=(lend n r).map (·+t.length)
structure LvP (t:List UInt8):Prop where
 pos:0 < t.length
 run:Reads t
 same:∀ r,putF own3 (t ++ r)=t ++ putF own3 r
 zs:∃ t',(∀ r,putF zer3 (t ++ r)=t' ++ putF zer3 r)∧t'.length≤t.length∧Reads t'∧t'.count 43=t.count 43∧117∉t'
theorem reads_z:Reads [122]:=fun n r=>lend_z n r
theorem reads_par {d:UInt8} (h1:48≤d.toNat) (h2:d.toNat≤50):Reads [117,d]:=fun n r=>lend_par n h1 h2 r
theorem reads_up {t:List UInt8} (h:Reads t):Reads (43 :: t):=fun n r=>by
 rw [List.cons_append,lend_up,h,Option.map_map]
 congr 1
theorem reads_two {c:UInt8} (hc:c=109∨c=105) {a b:List UInt8} (ha:Reads a) (hb:Reads b):Reads (c :: (a ++ b)):=fun n r=>by
 rw [List.cons_append,lend_two n hc,List.append_assoc,ha,hb,Option.map_map,Option.map_map]
 congr 1
 funext x
 simp
 omega
theorem LvP.z:LvP [122] where
 pos:=by decide
 run:=reads_z
 same r:=putF_step _ (by decide) r
 zs:=⟨[122],fun r=>putF_step _ (by decide) r,Nat.le_refl _,reads_z,rfl,by decide⟩
theorem LvP.par {d:UInt8} (h1:48≤d.toNat) (h2:d.toNat≤50):LvP [117,d] where
 pos:=by simp
 run:=reads_par h1 h2
 same r:=by
  have hd:d=48∨d=49∨d=50:=by
   rcases (by omega:d.toNat=48∨d.toNat=49∨d.toNat=50) with h | h | h
   ·exact .inl (UInt8.toNat_inj.1 h)
   ·exact .inr (.inl (UInt8.toNat_inj.1 h))
   ·exact .inr (.inr (UInt8.toNat_inj.1 h))
  show putF own3 (117 :: d :: r)=_
  rw [putF_par]
  rcases hd with rfl | rfl | rfl<;>rfl
 zs:=by
  have hd:d=48∨d=49∨d=50:=by
   rcases (by omega:d.toNat=48∨d.toNat=49∨d.toNat=50) with h | h | h
   ·exact .inl (UInt8.toNat_inj.1 h)
   ·exact .inr (.inl (UInt8.toNat_inj.1 h))
   ·exact .inr (.inr (UInt8.toNat_inj.1 h))
  refine ⟨[122],fun r=>?_,by simp,reads_z,?_,by decide⟩
  ·show putF zer3 (117 :: d :: r)=_
   rw [putF_par]
   rcases hd with rfl | rfl | rfl<;>rfl
  ·rcases hd with rfl | rfl | rfl<;>decide
theorem LvP.up {t:List UInt8} (h:LvP t):LvP (43 :: t) where
 pos:=by simp
 run:=reads_up h.run
 same r:=by rw [List.cons_append,putF_step _ (by decide),h.same];rfl
 zs:=by
  obtain ⟨t',h1,h2,h3,h4,h5⟩:=h.zs
  refine ⟨43 :: t',fun r=>by rw [List.cons_append,putF_step _ (by decide),h1];rfl,by simpa using h2,reads_up h3,by simp [h4],?_⟩
  intro hm
  rcases List.mem_cons.1 hm with e | e
  ·exact absurd e (by decide)
  ·exact h5 e
theorem LvP.two {c:UInt8} (hc:c=109∨c=105) {a b:List UInt8} (ha:LvP a) (hb:LvP b):LvP (c :: (a ++ b)) where
 pos:=by simp
 run:=reads_two hc ha.run hb.run
 same r:=by
  have h1:c≠117:=by rcases hc with rfl | rfl<;>decide
  rw [List.cons_append,putF_step _ h1,List.append_assoc,ha.same,hb.same]
  simp
 zs:=by
  have h1:c≠117:=by rcases hc with rfl | rfl<;>decide
  have h43:c≠43:=by rcases hc with rfl | rfl<;>decide
  obtain ⟨a',a1,a2,a3,a4,a5⟩:=ha.zs
  obtain ⟨b',b1,b2,b3,b4,b5⟩:=hb.zs
  refine ⟨c :: (a' ++ b'),fun r=>?_,by simp;omega,reads_two hc a3 b3,by simp [h43,a4,b4],?_⟩
  ·rw [List.cons_append,putF_step _ h1,List.append_assoc,a1,b1]
   simp
  ·intro hm
   rcases List.mem_cons.1 hm with e | e
   ·exact h1 e.symm
   ·rcases List.mem_append.1 e with e | e
    ·exact a5 e
    ·exact b5 e
theorem Reads.whole {t:List UInt8} (h:Reads t):lend 1 t=some t.length:=by
 have:=h 0 []
 rw [List.append_nil,lend_zero] at this
 simpa using this
theorem Reads.ok {t:List UInt8} (h:Reads t) (hl:t.length≤60):levelOk t=true:=by
 rw [levelOk,h.whole]
 simp [hl]
structure TwoP (a b:List UInt8):Prop where
 own:levelPut a own3=some a
 zer:∃ t,levelPut (43 :: a) zer3=some t∧levelParams t=0∧levelUps t=levelUps a+1
 ok:levelOk a=true
 end0:levelEnd (a ++ b) 0=a.length
 end1:levelEnd (a ++ b) (a.length:Int)=(a.length:Int)+b.length
 ups:levelUps (109 :: (a ++ b))=levelUps a+levelUps b
 not:levelOk (a ++ b)=false
end Go.Proofs.YtgonemalnljabaaGreatDoor
