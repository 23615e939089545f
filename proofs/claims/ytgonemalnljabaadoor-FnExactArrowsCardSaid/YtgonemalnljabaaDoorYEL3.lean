/- EL3 -/
import Derived.Test.YtgonemalnljabaaDoorYKA
import Derived.Test.YtgonemalnljabaaDoorYLists
set_option maxRecDepth 100000
set_option maxHeartbeats 16000000
set_option linter.unusedSimpArgs false
set_option linter.unusedVariables false
namespace Go.Proofs.YtgonemalnljabaaDoor
open Go.ChangeShapes Go.WideShapes Go.ChangeAt Go.RowKit
theorem putRes_formL (o:Option (List UInt8)):∃ t b,putRes o=.tuple #[.string t,.bool b]:=by
 cases o with
 | none=>exact ⟨_,_,rfl⟩
 | some t=>exact ⟨_,_,rfl⟩
theorem lawArrows (s:ByteArray) {v:Value} {args:List (List UInt8)} (w:World) (hm:s.size≤maxLen) (h:Came w v args)
  (hI:s.size≤1048576→args.length≤1048576→(∀ x∈args,x.length≤1048576)→∀ (W:World) (b:Nat) (v:Value),Below w.heap.size w W→W.ownsRow b 9 1 v args.length (args.map sv)→Calls Tryd.prog 7 #[v,.string s] W fun e w'=>e=.returned (putRes (arrowsOf args s.data.toList))∧Below W.heap.size W w') :
  Calls Tryd.prog 3 #[v,.string s] w fun e w'=>e=.returned (.bool true)∧Below w.heap.size w w':=by
 by_cases h1:s.size≤1048576
 ·have d1:decide ((1048576:Int) < (s.size:Int))=false:=decide_eq_false (by omega)
  have f0:Hid (Calls Tryd.prog 4 #[v,.int .i64 1048576] w (SzRes args 1048576 w)):=szStringS h 1048576 (Nat.le_refl _)
  go_enter Tryd.func3,Tryd.ntmps3
  go_wp2_with fail
  (with_reducible refine f0.out.mono ?_);rintro e w0 ⟨rfl,(rfl | ⟨r,rfl,hr⟩)⟩
  ·clear hI f0
   go_wp2
   go_ret
   exact ⟨rfl,Below.refl _ _⟩
  have d2:decide ((r:Int) < 0)=false:=decide_eq_false (by omega)
  have hn:args.length≤1048576:=by omega
  have hx:∀ x∈args,x.length≤1048576:=fun x hxm=>by have:=totL_mem hxm;omega
  have fA:=Ld fun W (hb:Below w0.heap.size w0 W)=>toStringS (h.below hb) hn
  have fS:=Ld fun (W:World) (b:Nat) (u:Value) (hu:W.ownsRow b 9 1 u args.length (args.map sv))=>specArrows s hu hm hx (by omega)
  have fI:=Ld (hI h1 hn hx)
  clear hI f0 hr hx
  obtain ⟨t,o,hres⟩:=putRes_formL (arrowsOf args s.data.toList)
  rw [hres] at fS fI
  clear hres
  go_wp2_with fail
  (with_reducible refine (fA.out _ (Below.refl _ _)).mono ?_);rintro e w2 ⟨u1,rfl,hu1,hb2⟩
  go_wp2_with fail
  (with_reducible refine (fS.out _ _ _ hu1).mono ?_);rintro e w3 ⟨rfl,hb3⟩
  have B3:=hb2.trans (hb3.mono hb2.size)
  clear hu1
  go_wp2_with fail
  (with_reducible refine (fA.out _ B3).mono ?_);rintro e w4 ⟨u2,rfl,hu2,hb4⟩
  have B4:=B3.trans (hb4.mono B3.size)
  go_wp2_with fail
  (with_reducible refine (fI.out _ _ _ B4 hu2).mono ?_);rintro e w5 ⟨rfl,hb5⟩
  have B5:=B4.trans (hb5.mono B4.size)
  have hu5:=own_below hu2 hb5
  clear hu2
  cases o
  all_goals
   go_wp2_with fail
   (with_reducible refine (fA.out _ B5).mono ?_);rintro e w6 ⟨u3,rfl,hu3,hb6⟩
   have B6:=B5.trans (hb6.mono B5.size)
   have hu6:=own_below hu5 hb6
   go_wp2_with fail
   (refine (eqStringS hu6 hu3 (by omega)).mono ?_);rintro e w7 ⟨rfl,q,rfl⟩
   go_wp2
   go_ret
   exact ⟨rfl,below_drewN B6 q⟩
 ·have d1:decide ((1048576:Int) < (s.size:Int))=true:=decide_eq_true (by omega)
  clear hI h
  unfold maxLen at hm
  go_enter Tryd.func3,Tryd.ntmps3
  go_wp2
  go_ret
  exact ⟨rfl,Below.refl _ _⟩
end Go.Proofs.YtgonemalnljabaaDoor
