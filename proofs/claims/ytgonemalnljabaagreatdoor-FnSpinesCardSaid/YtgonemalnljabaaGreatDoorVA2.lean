/- RdS NWalks NWalks2 -/
import Derived.BigCall
import Derived.Laws.RangeAny
import Derived.Test.YtgonemalnljabaaGreatDoorVA1
set_option maxRecDepth 100000
set_option maxHeartbeats 16000000
set_option linter.unusedSimpArgs false
set_option linter.unusedVariables false
namespace Go.Proofs.YtgonemalnljabaaGreatDoor
open Go.ChangeShapes Go.WideShapes Go.ChangeAt Go.RowKit
def RdPost (l:List UInt8) (w:World) (e:Ending) (w':World):Prop :=
 Below w.heap.size w w'∧((∃ n,IsDec l n∧e=.returned (.tuple #[.int .i64 (n:Int),.bool true]))∨((∀ n,¬ IsDec l n)∧e=.returned (.tuple #[.int .i64 0,.bool false])))
theorem azB_iff (c:UInt8):azB c=true↔97≤c.toNat∧c.toNat≤122:=by simp [azB]
theorem dgB_iff (c:UInt8):dgB c=true↔48≤c.toNat∧c.toNat≤57:=by simp [dgB]
def CRel (y:UInt8) (l:List UInt8) (k b:Nat) (out:List (List UInt8)):Prop :=
 (k≤l.length∧b≤k∧out.length≤k∧cutF y [] l=out ++ cutF y ((l.drop b).take (k - b)) (l.drop k))∨(k=l.length+1∧out.length≤k∧cutF y [] l=out)
theorem CRel.start (y:UInt8) (l:List UInt8):CRel y l 0 0 []:=.inl ⟨Nat.zero_le _,Nat.le_refl _,Nat.le_refl _,by simp⟩
theorem CRel.len {y:UInt8} {l:List UInt8} {k b:Nat} {out:List (List UInt8)} (h:CRel y l k b out):out.length≤k:=by rcases h with h | h<;>omega
theorem CRel.cut {y:UInt8} {l:List UInt8} {k b:Nat} {out:List (List UInt8)} (h:CRel y l k b out) (hk:k < l.length) (hc:l[k]=y):CRel y l (k+1) (k+1) (out ++ [(l.drop b).take (k - b)]):=by
 rcases h with ⟨h1,h2,h3,h4⟩ | ⟨h1,_⟩
 ·refine .inl ⟨hk,by omega,by simp;omega,?_⟩
  rw [h4,List.drop_eq_getElem_cons hk,cutF,if_pos hc]
  simp
 ·omega
theorem CRel.done {y:UInt8} {l:List UInt8} {b:Nat} {out:List (List UInt8)} (h:CRel y l (l.length+1) b out):cutF y [] l=out:=by
 rcases h with ⟨h1,_⟩ | ⟨_,_,h3⟩
 ·omega
 ·exact h3
def LRes (r:List (List UInt8)) (w:World) (e:Ending) (w':World):Prop :=
 ∃ v,e=.returned v∧w'.ownsRow w.heap.size 9 1 v r.length (r.map sv)∧Below w.heap.size w w'
theorem infoStr:(Tryz.prog.info? 9).map (fun i=>(i.zero,i.size,i.bytes))=some (some (.string ⟨#[]⟩),1,16):=by kernel_rfl
theorem scan_fail {l:List UInt8} {k d:Nat} {b:Bool} (h:k < l.length) (h1:¬ (97≤l[k].toNat∧l[k].toNat≤122)) (h2:¬ ((48≤l[k].toNat∧l[k].toNat≤57)∧b=true)) (h3:¬ (l[k].toNat=46∧b=true)):scan (l.drop k) d b=false:=by
 rw [scan_drop h,if_neg (by rw [azB_iff];exact h1),if_neg (by rw [dgB_iff];exact h2),if_neg]
 rintro ⟨h4,h5⟩
 exact h3 ⟨by rw [h4];rfl,h5⟩
theorem scan_digit {l:List UInt8} {k d:Nat} (h:k < l.length) (h1:48≤l[k].toNat∧l[k].toNat≤57):scan (l.drop k) d true=scan (l.drop (k+1)) d true:=by
 rw [scan_drop h,if_neg (by rw [azB_iff];omega),if_pos ⟨(dgB_iff _).2 h1,rfl⟩]
theorem scan_dot {l:List UInt8} {k d:Nat} (h:k < l.length) (h1:l[k].toNat=46):scan (l.drop k) d true=scan (l.drop (k+1)) (d+1) false:=by
 rw [scan_drop h,if_neg (by rw [azB_iff];omega),if_neg (by rw [dgB_iff];omega),if_pos ⟨UInt8.toNat_inj.1 h1,rfl⟩]
theorem scan_az {l:List UInt8} {k d:Nat} {b:Bool} (h:k < l.length) (h1:97≤l[k].toNat∧l[k].toNat≤122):scan (l.drop k) d b=scan (l.drop (k+1)) d true:=by
 rw [scan_drop h,if_pos ((azB_iff _).2 h1)]
theorem below_iter (w:World) (s:ByteArray) (p:Nat):Below w.heap.size w (w.iter s p):=(Below.refl _ _).alloc (Nat.le_refl _) _
theorem implNameOk (s:ByteArray) (w:World) (hm:s.size≤maxLen) :
  Calls Tryz.prog 74 #[.string s] w fun e w'=>e=.returned (.bool (nameOk s.data.toList))∧Below w.heap.size w w':=by
 unfold maxLen at hm
 by_cases h40:40 < s.size
 ·have HR:=Ld (nameOk_long (l:=s.data.toList) h40)
  go_enter Tryz.func74,Tryz.ntmps74
  go_wp2
  go_ret
  rw [HR.out]
  exact ⟨rfl,Below.refl _ _⟩
 ·rw [nameOk_scan _ (Nat.not_lt.1 h40)]
  have hb:decide ((40:Int) < (s.size:Int))=false:=by rw [decide_eq_false_iff_not];omega
  go_enter Tryz.func74,Tryz.ntmps74
  go_wp2
  go_loopw [3,4] (fun dv bv wr=>∃ (k d:Nat) (b:Bool),k≤s.size∧d≤k+1∧dv=.int .i64 d∧bv=.bool b∧wr=w.iter s k∧Hid (scan s.data.toList 1 false=scan (s.data.toList.drop k) d b)) (fun _ _ wr=>s.size - wr.iterPos w.heap.size)
  case atStart=>exact ⟨0,1,false,Nat.zero_le _,Nat.le_refl _,rfl,rfl,rfl,by simp [Hid]⟩
  case round =>
   obtain ⟨k,d,b,hk,hd,rfl,rfl,rfl,HS⟩:=hrel
   by_cases hlt:k < s.size
   ·by_cases hasc:(s[k]).toNat < 128
    ·have hnx:∀ ty,(Instr.next (.pointer (some ⟨w.heap.size,0,none⟩)) true ty).run Tryz.prog (w.iter s k)=_:=fun ty=>run_next_ascii w s k ty hlt hasc
     by_cases haz:97≤s[k].toNat∧s[k].toNat≤122
     ·have HR:=Ld (HS.out.trans (scan_az (l:=s.data.toList) hlt haz))
      clear HS
      obtain ⟨y1,y2⟩:=haz
      have a1:decide ((97:Int)≤(s[k].toNat:Int))=true:=by simp;omega
      have a2:decide ((s[k].toNat:Int)≤122)=true:=by simp;omega
      have a3:decide ((48:Int)≤(s[k].toNat:Int))=true:=by simp;omega
      have a4:decide ((s[k].toNat:Int)≤57)=false:=by simp;omega
      have a5:((s[k].toNat:Int) == 46)=false:=by rw [beq_eq_false_iff_ne];omega
      go_wp2
      go_roundw
      case rel=>exact ⟨k+1,d,true,by omega,by omega,rfl,rfl,rfl,HR.out⟩
      case measure=>simp;omega
     ·by_cases hdg:48≤s[k].toNat∧s[k].toNat≤57
      ·cases b
       ·have HR:=Ld (HS.out.trans (scan_fail (l:=s.data.toList) hlt haz (by simp) (by simp)))
        obtain ⟨y1,y2⟩:=hdg
        clear HS haz
        have a1:decide ((97:Int)≤(s[k].toNat:Int))=false:=by simp;omega
        have a2:decide ((s[k].toNat:Int)≤122)=true:=by simp;omega
        have a3:decide ((48:Int)≤(s[k].toNat:Int))=true:=by simp;omega
        have a4:decide ((s[k].toNat:Int)≤57)=true:=by simp;omega
        have a5:((s[k].toNat:Int) == 46)=false:=by rw [beq_eq_false_iff_ne];omega
        go_wp2
        go_ret
        rw [HR.out]
        exact ⟨rfl,below_iter _ _ _⟩
       ·have HR:=Ld (HS.out.trans (scan_digit (l:=s.data.toList) hlt hdg))
        obtain ⟨y1,y2⟩:=hdg
        clear HS haz
        have a1:decide ((97:Int)≤(s[k].toNat:Int))=false:=by simp;omega
        have a2:decide ((s[k].toNat:Int)≤122)=true:=by simp;omega
        have a3:decide ((48:Int)≤(s[k].toNat:Int))=true:=by simp;omega
        have a4:decide ((s[k].toNat:Int)≤57)=true:=by simp;omega
        have a5:((s[k].toNat:Int) == 46)=false:=by rw [beq_eq_false_iff_ne];omega
        go_wp2
        go_roundw
        case rel=>exact ⟨k+1,d,true,by omega,by omega,rfl,rfl,rfl,HR.out⟩
        case measure=>simp;omega
      ·by_cases h46:s[k].toNat=46
       ·cases b
        ·have HR:=Ld (HS.out.trans (scan_fail (l:=s.data.toList) hlt haz (by simp) (by simp)))
         clear HS haz hdg
         have a1:decide ((97:Int)≤(s[k].toNat:Int))=false:=by simp;omega
         have a2:decide ((s[k].toNat:Int)≤122)=true:=by simp;omega
         have a3:decide ((48:Int)≤(s[k].toNat:Int))=false:=by simp;omega
         have a4:decide ((s[k].toNat:Int)≤57)=true:=by simp;omega
         have a5:((s[k].toNat:Int) == 46)=true:=by rw [beq_iff_eq];omega
         go_wp2
         go_ret
         rw [HR.out]
         exact ⟨rfl,below_iter _ _ _⟩
        ·have HR:=Ld (HS.out.trans (scan_dot (l:=s.data.toList) hlt h46))
         clear HS haz hdg
         have a1:decide ((97:Int)≤(s[k].toNat:Int))=false:=by simp;omega
         have a2:decide ((s[k].toNat:Int)≤122)=true:=by simp;omega
         have a3:decide ((48:Int)≤(s[k].toNat:Int))=false:=by simp;omega
         have a4:decide ((s[k].toNat:Int)≤57)=true:=by simp;omega
         have a5:((s[k].toNat:Int) == 46)=true:=by rw [beq_iff_eq];omega
         clear h46
         go_wp2
         go_roundw
         case rel=>exact ⟨k+1,d+1,false,by omega,by omega,by go_num,rfl,rfl,HR.out⟩
         case measure=>simp;omega
       ·have HR:=Ld (HS.out.trans (scan_fail (l:=s.data.toList) hlt haz (fun h=>hdg h.1) (fun h=>h46 h.1)))
        clear HS
        by_cases z1:122 < s[k].toNat
        ·clear haz hdg
         have a1:decide ((97:Int)≤(s[k].toNat:Int))=true:=by simp;omega
         have a2:decide ((s[k].toNat:Int)≤122)=false:=by simp;omega
         have a3:decide ((48:Int)≤(s[k].toNat:Int))=true:=by simp;omega
         have a4:decide ((s[k].toNat:Int)≤57)=false:=by simp;omega
         have a5:((s[k].toNat:Int) == 46)=false:=by rw [beq_eq_false_iff_ne];omega
         go_wp2
         go_ret
         rw [HR.out]
         exact ⟨rfl,below_iter _ _ _⟩
        ·by_cases z2:57 < s[k].toNat
         ·have z3:s[k].toNat < 97:=by omega
          clear haz hdg
          have a1:decide ((97:Int)≤(s[k].toNat:Int))=false:=by simp;omega
          have a2:decide ((s[k].toNat:Int)≤122)=true:=by simp;omega
          have a3:decide ((48:Int)≤(s[k].toNat:Int))=true:=by simp;omega
          have a4:decide ((s[k].toNat:Int)≤57)=false:=by simp;omega
          have a5:((s[k].toNat:Int) == 46)=false:=by rw [beq_eq_false_iff_ne];omega
          go_wp2
          go_ret
          rw [HR.out]
          exact ⟨rfl,below_iter _ _ _⟩
         ·have z3:s[k].toNat < 48:=by omega
          clear haz hdg
          have a1:decide ((97:Int)≤(s[k].toNat:Int))=false:=by simp;omega
          have a2:decide ((s[k].toNat:Int)≤122)=true:=by simp;omega
          have a3:decide ((48:Int)≤(s[k].toNat:Int))=false:=by simp;omega
          have a4:decide ((s[k].toNat:Int)≤57)=true:=by simp;omega
          have a5:((s[k].toNat:Int) == 46)=false:=by rw [beq_eq_false_iff_ne];omega
          go_wp2
          go_ret
          rw [HR.out]
          exact ⟨rfl,below_iter _ _ _⟩
    ·have hnx:∀ ty,(Instr.next (.pointer (some ⟨w.heap.size,0,none⟩)) true ty).run Tryz.prog (w.iter s k)=_:=fun ty=>run_next_any w s k ty hlt
     have hhi:=(decode_high s k hlt (by omega)).1
     have HR:=Ld (HS.out.trans (scan_fail (l:=s.data.toList) hlt (show ¬ (97≤s[k].toNat∧s[k].toNat≤122) by omega) (show ¬ ((48≤s[k].toNat∧s[k].toNat≤57)∧b=true) by omega) (show ¬ (s[k].toNat=46∧b=true) by omega)))
     clear HS
     have a1:decide ((97:Int)≤((Utf8.decode s k).1:Int))=true:=by simp;omega
     have a2:decide (((Utf8.decode s k).1:Int)≤122)=false:=by simp;omega
     have a3:decide ((48:Int)≤((Utf8.decode s k).1:Int))=true:=by simp;omega
     have a4:decide (((Utf8.decode s k).1:Int)≤57)=false:=by simp;omega
     have a5:(((Utf8.decode s k).1:Int) == 46)=false:=by rw [beq_eq_false_iff_ne];omega
     go_wp2
     go_ret
     rw [HR.out]
     exact ⟨rfl,below_iter _ _ _⟩
   ·obtain rfl:k=s.size:=by omega
    have hnx:∀ ty,(Instr.next (.pointer (some ⟨w.heap.size,0,none⟩)) true ty).run Tryz.prog (w.iter s s.size)=_:=fun ty=>run_next_end w s s.size ty (Nat.lt_irrefl _)
    have e0:s.data.toList.drop s.size=[]:=List.drop_length
    have HR:=Ld (HS.out.trans (show scan (s.data.toList.drop s.size) d b=(b && decide (d≤5)) by rw [e0];rfl))
    clear HS e0
    cases b
    ·go_wp2
     go_ret
     rw [HR.out]
     exact ⟨rfl,below_iter _ _ _⟩
    ·go_wp2
     go_ret
     rw [HR.out]
     exact ⟨by simp;omega,below_iter _ _ _⟩
end Go.Proofs.YtgonemalnljabaaGreatDoor
