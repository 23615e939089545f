/- MarkText GMk -/
import Derived.Test.YtcaahdjhbmmcnaaGreatDoorYBase
import Derived.Test.YtcaahdjhbmmcnaaGreatDoorYA6
set_option maxRecDepth 100000
set_option maxHeartbeats 16000000
set_option linter.unusedSimpArgs false
set_option linter.unusedVariables false
namespace Go.Proofs.YtcaahdjhbmmcnaaGreatDoor
open Go.ChangeShapes Go.WideShapes Go.ChangeAt Go.RowKit
def decA (k:Nat) (acc:List UInt8):List UInt8:=if h:k=0 then acc else decA (k / 10) (UInt8.ofNat (48+k % 10) :: acc)
termination_by k
decreasing_by omega
def markL (k:Nat):List UInt8:=109 :: decA k []
theorem decA_step {k:Nat} (h:0 < k) (acc:List UInt8):decA k acc=decA (k / 10) (UInt8.ofNat (48+k % 10) :: acc):=by
 rw [decA,dif_neg (by omega)]
theorem decA_zero (acc:List UInt8):decA 0 acc=acc:=by rw [decA,dif_pos rfl]
theorem sv_cons (m:Nat) (acc:List UInt8) (k:Nat) (h:k=m:=by rfl):Value.string ({ data:=#[48+UInt8.ofNat (m % 10)] } ++ { data:=acc.toArray })=sv (UInt8.ofNat (48+k % 10) :: acc):=by
 subst h;have e:UInt8.ofNat (48+k % 10)=48+UInt8.ofNat (k % 10):=by
  apply UInt8.toNat_inj.1;simp
 rw [e];unfold sv;congr 1
theorem sv_cons109 (acc:List UInt8):Value.string ({ data:=#[109] } ++ { data:=acc.toArray })=sv (109 :: acc):=by
 unfold sv;congr 1
theorem markText (k:Nat) (w:World) (h0:0 < k) (hk:k<=1000000000) :
  Rt 42 #[.int .i64 (k:Int)] w (.string ⟨(markL k).toArray⟩):=by
 have hb:decide ((k:Int)<=0)=false:=by simp;omega
 go_enter Tryz.func42,Tryz.ntmps42;go_wp2;go_loopw [0,3] (fun i s wr=>∃ (m:Nat) (acc:List UInt8),m+acc.length<=k/\i=.int .i64 m/\s=sv acc/\Below w.heap.size w wr/\Hid (decA k []=decA m acc))
  (fun i _ _=>(intOf i).toNat)
 case atStart=>exact ⟨k,[],by simp,rfl,rfl,bR _ _,rfl⟩
 case round =>
  obtain ⟨m,acc,hm,rfl,rfl,hbel,HD⟩:=hrel;by_cases hp:0 < m
  ·have HD':=HD.out.trans (decA_step hp acc);have HD2:=Ld HD';clear HD' HD;have hcv:=conv_one (P:=Tryz.prog) wr (48+(m:Int) % 10) Tryz.underlying97 Tryz.underlying5 Tryz.underlying9 (by omega) (by omega);simp only [sv];go_wp2;go_roundw
   case rel=>exact ⟨m / 10,UInt8.ofNat (48+m % 10) :: acc,by simp;omega,by go_num,sv_cons _ _ _,hbel.alloc hbel.size _,HD2.out⟩
   case measure=>simp [intOf];omega
  ·obtain rfl:m=0:=(by omega);have HD':=HD.out.trans (decA_zero acc);have HD2:=Ld HD';clear HD' HD;have hz:(⟨acc.toArray⟩:ByteArray).size=acc.length:=(by simp [ByteArray.size]);simp only [sv];go_wp2;go_ret;refine ⟨?_,hbel⟩;unfold markL;rw [HD2.out];exact congrArg Ending.returned (sv_cons109 acc)
theorem markCtorS {w:World} {base n k:Nat} {v:Value} {xs:List Value} (h:w.ownsRow base 88 2 v n xs) (hn:n<=10000000) (hk0:0 < k) (hk:k<=100000000) :
  Calls Tryz.prog 43 #[v,.int .i64 (k:Int)] w fun e w'=>e=.returned (.int .i64 ((k:Int)+2*(n:Int)))/\w.grownBy w' v.ownBlock/\∃ ys,w'.ownsRow base 88 2 v n ys:=by
 rcases Nat.eq_zero_or_pos n with h0 | hp
 ·subst h0;rcases h.2 with ⟨rfl,_⟩ | ⟨g,cap,cur,rfl,_⟩
  all_goals
   have h':=Ld h;clear h hn;go_enter Tryz.func43,Tryz.ntmps43;go_wp2;refine wp_loop_rounds 1 ?_;rw [rounds_succ];go_wp2;go_ret;exact ⟨by simp,World.grownBy.refl _ _,_,h'.out⟩
 ·obtain ⟨g,c,rfl,_,_⟩:=h.form hp;go_enter Tryz.func43,Tryz.ntmps43;go_wp2;go_loopw [1,5] (fun kk i wr=>∃ (j:Nat) (ys:List Value),j<=n/\i=.int .i64 j/\kk=.int .i64 ((k:Int)+2*(j:Int))/\Hid (wr.ownsRow base 88 2 (.slice (some ⟨g,0,none⟩) n c) n ys/\w.grownBy wr (some g))) (fun _ i _=>n - (intOf i).toNat)
  case atStart=>exact ⟨0,xs,Nat.zero_le _,rfl,by go_num,h,World.grownBy.refl _ _⟩
  case round =>
   obtain ⟨j,ys,hj,rfl,rfl,HO⟩:=hrel;clear h;by_cases hlt:j < n
   ·have f1:=Ld fun W=>markText (k+2*j) W (by omega) (by omega);have f2:=Ld fun W=>markText (k+2*j+1) W (by omega) (by omega);simp only [Int.natCast_add,Int.natCast_mul,Int.cast_ofNat_Int,Int.natCast_one] at f1 f2;generalize markL (k+2*j+1)=mk2 at f2;generalize markL (k+2*j)=mk1 at f1;have q1:=zn j;have q2:(j:Int) < (n:Int):=(by omega);go_wp2_with fail;(with_reducible refine mo (f1.out _) fun w1 hb1=>?_);have hown:=own_below HO.out.1 hb1;have hyl:ys.length=n*2:=hown.1;have co:=hown.cellAt (j*2) (by omega);rw [List.getElem?_eq_getElem (by omega)] at co;have cf:=hown.frozenAt (j*2);generalize ys[j*2]=old1 at co;have HS1:=Ld (hown.stored (j*2) (.string ⟨mk1.toArray⟩));have HG1:=Ld (HO.out.2.trans (grownBy_of_below hb1 (some g)));clear hown hyl hb1 HO f1;go_wp2_with fail;(with_reducible refine mo (f2.out _) fun w2 hb2=>?_);have hown2:=own_below HS1.out.1 hb2;have hyl2:(ys.set (j*2) (.string ⟨mk1.toArray⟩)).length=n*2:=hown2.1;have co2:=hown2.cellAt (j*2+1) (by omega);rw [List.getElem?_eq_getElem (by omega)] at co2;have cf2:=hown2.frozenAt (j*2+1);generalize (ys.set (j*2) (.string ⟨mk1.toArray⟩))[j*2+1]=old2 at co2;have HS2:=Ld (hown2.stored (j*2+1) (.string ⟨mk2.toArray⟩));have HG2:=Ld ((HG1.out.trans HS1.out.2).trans ((grownBy_of_below hb2 (some g)).trans HS2.out.2));clear hown2 hyl2 hb2 f2 HS1 HG1 co cf;go_wp2;go_roundw
    case rel=>exact ⟨j+1,_,by omega,by go_num,by go_num,HS2.out.1,HG2.out⟩
    case measure=>simp [intOf];omega
   ·obtain rfl:j=n:=(by omega);have HG:=Ld HO.out.2;have HR:=Ld HO.out.1;clear HO;go_wp2;go_ret;exact ⟨rfl,HG.out,_,HR.out⟩
end Go.Proofs.YtcaahdjhbmmcnaaGreatDoor
