/- VI1 TIV TI5 TI6 DecI RdI TI3 -/
import Derived.ScopeJumps
import Derived.WalkMore
import Derived.Lib.Builder
import Derived.Lib.LaidTab
import Derived.Lib.AtoiErrMem
import Derived.BigCall
import Derived.WideLaws
import Derived.Test.YtcaahdjhbmmcnaaGreatDoorYV1
import Derived.Test.YtcaahdjhbmmcnaaGreatDoorYA1
import Derived.Test.YtcaahdjhbmmcnaaGreatDoorYA2
import Derived.Test.YtcaahdjhbmmcnaaGreatDoorYP1
set_option maxRecDepth 100000
set_option maxHeartbeats 16000000
set_option linter.unusedSimpArgs false
set_option linter.unusedVariables false
namespace Go.Proofs.YtcaahdjhbmmcnaaGreatDoor
open Go.ChangeShapes Go.WideShapes Go.ChangeAt Go.RowKit
theorem wp_scope_on {P:Program} {a:Act} {w:World} {Q:Exit->Act->World->Prop} {c rest:Code} (l:Nat) (hf:findLabel c l=some rest)
  (first:c.wp P (Exit.jump l (fun a w=>rest.wp P (Exit.noGoto Q) a w) Q) a w):(Code.scope c).wp P Q a w:=by
 refine wp_scope_jumps l _ (fun _ _=>0) hf first fun a w h=>?_;refine Code.wp_mono ?_ h;intro e a w hq;cases e<;>first | exact hq | exact hq.elim
theorem implIsParam (c:UInt8) (w:World) :
  Calls Tryz.prog 212 #[.int .u8 (c.toNat:Int)] w fun e w'=>e=.returned (.bool (decide (48<=c.toNat/\c.toNat<=50)))/\w'=w:=by
 by_cases h1:48<=c.toNat
 ·have d1:decide ((48:Int)<=(c.toNat:Int))=true:=dT (by omega);by_cases h2:c.toNat<=50
  ·have d2:decide ((c.toNat:Int) < 51)=true:=dT (by omega);have HE:=Ld (dT (p:=48<=c.toNat/\c.toNat<=50) ⟨h1,h2⟩);clear h1 h2;go_enter Tryz.func212,Tryz.ntmps212;go_wp2;go_ret;rw [HE.out];exact ⟨rfl,rfl⟩
  ·have d2:decide ((c.toNat:Int) < 51)=false:=dF (by omega);have HE:=Ld (dF (p:=48<=c.toNat/\c.toNat<=50) (by omega));clear h1 h2;go_enter Tryz.func212,Tryz.ntmps212;go_wp2;go_ret;rw [HE.out];exact ⟨rfl,rfl⟩
 ·have d1:decide ((48:Int)<=(c.toNat:Int))=false:=dF (by omega);have HE:=Ld (dF (p:=48<=c.toNat/\c.toNat<=50) (by omega));clear h1;go_enter Tryz.func212,Tryz.ntmps212;go_wp2;go_ret;rw [HE.out];exact ⟨rfl,rfl⟩
theorem implLevelEndIn (s:ByteArray) (a:Nat) (w:World) (hs:s.size<=10000) (ha:a<=s.size) :
  Calls Tryz.prog 211 #[.string s,.int .i64 (a:Int)] w fun e w'=>e=.returned (.int .i64 (endV (runE s.data.toList 1 a)))/\w'=w:=by
 have d01:decide ((a:Int) < 0)=false:=dF (by omega);have d02:decide ((s.size:Int) < (a:Int))=false:=dF (by omega);have d04:decide (s.size < a)=false:=dF (by omega);have d03:decide ((10000:Int) < (s.size:Int))=false:=dF (by omega);have hls:s.data.toList.length=s.size:=rfl;have HLS:=Ld hls;clear hls;go_enter Tryz.func211,Tryz.ntmps211;go_wp2;refine wp_scope_on 0 rfl ?_;generalize hQ:Exit.jump 0 _ _=QQ;go_wp2;clear d01 d02 d03;go_loopw [1,5] (fun i nd wr=>∃ p n:Nat,p<=s.size/\n<=p+1/\i=.int .i64 p/\nd=.int .i64 n/\wr=w/\Hid (runE s.data.toList n p=runE s.data.toList 1 a)) (fun i _ _=>s.size - (intOf i).toNat)
 case atStart=>exact ⟨a,1,ha,by omega,rfl,rfl,rfl,rfl⟩
 case round =>
  obtain ⟨p,n,hp,hn,rfl,rfl,rfl,HR⟩:=hrel;rcases Nat.eq_zero_or_pos n with h0 | hpos
  ·subst h0;rw [runE_zero] at HR;have HE:Hid (endV (runE s.data.toList 1 a)=(p:Int)):=(by rw [Hid,← HR.out];rfl);clear HR;go_wp2;subst hQ;simp only [Exit.jump];go_ret;rw [HE.out];exact ⟨rfl,rfl⟩
  ·obtain ⟨m,hm⟩:∃ m,n=m+1:=⟨n - 1,by omega⟩;rw [hm] at HR;have d0:decide ((0:Int) < (n:Int))=true:=dT (by omega);by_cases hlt:p < s.size
   ·have hll:p < s.data.toList.length:=hlt;have q1:=zn p;have q2:(p:Int) < (s.size:Int):=(by omega);have d1:((p:Int) == (s.size:Int))=false:=beq_eq_false_iff_ne.2 (by omega);by_cases c1:s[p]=122
    ·have e1:((s[p].toNat:Int) == 122)=true:=is_byte c1;have HR2:=Ld ((runE_z hll c1).symm.trans HR.out);clear HR c1;go_wp2;go_roundw
     case rel=>exact ⟨p+1,m,by omega,by omega,by go_num,by simp<;>omega,trivial,HR2.out⟩
     case measure=>simp [intOf];omega
    have e1:((s[p].toNat:Int) == 122)=false:=ne_byte c1;by_cases c2:s[p]=43
    ·have e2:((s[p].toNat:Int) == 43)=true:=is_byte c2;have HR2:=Ld ((runE_up hll c2).symm.trans HR.out);clear HR c2;go_wp2;go_roundw
     case rel=>exact ⟨p+1,m+1,by omega,by omega,by go_num,by simp<;>omega,trivial,HR2.out⟩
     case measure=>simp [intOf];omega
    have e2:((s[p].toNat:Int) == 43)=false:=ne_byte c2;by_cases c3:s[p]=109
    ·have e3:((s[p].toNat:Int) == 109)=true:=is_byte c3;have HR2:=Ld ((runE_two hll (.inl c3)).symm.trans HR.out);clear HR c3;go_wp2;go_roundw
     case rel=>exact ⟨p+1,m+2,by omega,by omega,by go_num,by simp<;>omega,trivial,HR2.out⟩
     case measure=>simp [intOf];omega
    have e3:((s[p].toNat:Int) == 109)=false:=ne_byte c3;by_cases c4:s[p]=105
    ·have e4:((s[p].toNat:Int) == 105)=true:=is_byte c4;have HR2:=Ld ((runE_two hll (.inr c4)).symm.trans HR.out);clear HR c4;go_wp2;go_roundw
     case rel=>exact ⟨p+1,m+2,by omega,by omega,by go_num,by simp<;>omega,trivial,HR2.out⟩
     case measure=>simp [intOf];omega
    have e4:((s[p].toNat:Int) == 105)=false:=ne_byte c4;by_cases c5:s[p]=117
    ·have e5:((s[p].toNat:Int) == 117)=true:=is_byte c5;by_cases hl2:p+1 < s.size
     ·have hll2:p+1 < s.data.toList.length:=hl2;have d2:((p:Int)+1 == (s.size:Int))=false:=beq_eq_false_iff_ne.2 (by omega);have q3:(0:Int)<=(p:Int)+1:=(by omega);have q4:(p:Int)+1 < (s.size:Int):=(by omega);have f1:=Ld fun W=>implIsParam s[p+1] W;by_cases b1:48<=s[p+1].toNat/\s[p+1].toNat<=50
      ·have HR2:=Ld ((runE_par hll2 c5 b1.1 b1.2).symm.trans HR.out);rw [dT b1] at f1;clear HR c5 b1;go_wp2_with fail;(with_reducible refine mo (f1.out _) ?_);rintro w1 rfl;go_wp2;go_roundw
       case rel=>exact ⟨p+2,m,by omega,by omega,by go_num,by simp<;>omega,trivial,HR2.out⟩
       case measure=>simp [intOf];omega
      ·rw [dF b1] at f1;have HR2:=Ld ((runE_parBad (n:=m) hll2 c5 b1).symm.trans HR.out);have HE:Hid (endV (runE s.data.toList 1 a)=-1):=(by rw [Hid,← HR2.out];rfl);clear HR HR2 c5 b1;go_wp2_with fail;(with_reducible refine mo (f1.out _) ?_);rintro w1 rfl;go_wp2;subst hQ;simp only [Exit.jump];go_ret;rw [HE.out];exact ⟨rfl,rfl⟩
     ·have d2:((p:Int)+1 == (s.size:Int))=true:=beq_iff_eq.2 (by omega);have HR2:=Ld ((runE_parEnd (n:=m) hll (by simpa using hl2) c5).symm.trans HR.out);have HE:Hid (endV (runE s.data.toList 1 a)=-1):=(by rw [Hid,← HR2.out];rfl);clear HR HR2 c5;go_wp2;go_step3;subst hQ;refine ⟨rfl,?_⟩;go_wp2;rw [Exit.noGoto_ret];go_ret;rw [HE.out];exact ⟨rfl,rfl⟩
    ·have e5:((s[p].toNat:Int) == 117)=false:=ne_byte c5;have HR2:=Ld ((runE_bad (n:=m) hll c1 c2 c3 c4 c5).symm.trans HR.out);have HE:Hid (endV (runE s.data.toList 1 a)=-1):=(by rw [Hid,← HR2.out];rfl);clear HR HR2 c1 c2 c3 c4 c5;go_wp2;subst hQ;simp only [Exit.jump];go_ret;rw [HE.out];exact ⟨rfl,rfl⟩
   ·have d1:((p:Int) == (s.size:Int))=true:=beq_iff_eq.2 (by omega);have HR2:=Ld ((runE_end (n:=m) (l:=s.data.toList) (p:=p) (by simpa using hlt)).symm.trans HR.out);have HE:Hid (endV (runE s.data.toList 1 a)=-1):=(by rw [Hid,← HR2.out];rfl);clear HR HR2;go_wp2;go_step3;subst hQ;refine ⟨rfl,?_⟩;go_wp2;rw [Exit.noGoto_ret];go_ret;rw [HE.out];exact ⟨rfl,rfl⟩
theorem implLevelOk (s:ByteArray) (w:World) (hs:s.size<=maxLen) :
  Calls Tryz.prog 175 #[.string s] w fun e w'=>e=.returned (.bool (levelOk s.data.toList))/\w'=w:=by
 have hls:s.data.toList.length=s.size:=rfl;unfold maxLen at hs;by_cases h1:s.size<=60
 ·have d1:decide ((s.size:Int)<=60)=true:=dT (by omega);have f1:Hid (∀ W,Calls Tryz.prog 211 #[.string s,.int .i64 0] W fun e w'=>e=.returned (.int .i64 (endV (runE s.data.toList 1 0)))/\w'=W):=fun W=>implLevelEndIn s 0 W (by omega) (by omega);have HE:=Ld (endV_ok (l:=s.data.toList) (by omega));rw [hls] at HE;clear hls;generalize endV (runE s.data.toList 1 0)=r at f1 HE;go_enter Tryz.func175,Tryz.ntmps175;go_wp2_with fail;(with_reducible refine mo (f1.out _) ?_);rintro w1 rfl;go_wp2;go_ret;rw [← HE.out];exact ⟨rfl,rfl⟩
 ·have d1:decide ((s.size:Int)<=60)=false:=dF (by omega);have HE:Hid (levelOk s.data.toList=false):=(by rw [Hid,levelOk,hls,dF h1];rfl);clear hls;go_enter Tryz.func175,Tryz.ntmps175;go_wp2;go_ret;rw [HE.out];exact ⟨rfl,rfl⟩
theorem lvsB_leI:∀ {ls:List (List UInt8)},ls.length<=(lvsB ls).length/\∀ x∈ls,x.length<=(lvsB ls).length
 | []=>by simp [lvsB]
 | y :: r=>by
  obtain ⟨h1,h2⟩:=lvsB_leI (ls:=r);constructor
  ·simp [lvsB];omega
  ·intro x hx;rcases List.mem_cons.1 hx with rfl | hx
   ·simp [lvsB]
   ·have:=h2 x hx;simp [lvsB];omega
def constOk (n:List UInt8) (ls:List (List UInt8)):Bool:=nameOk n && decide (ls.length<=3) && ls.all levelOk
theorem constOk_iff {n:List UInt8} {ls:List (List UInt8)}:constOk n ls=true↔(Tm.const n ls).Ok:=by
 simp [constOk,Tm.Ok,List.all_eq_true,and_assoc]
theorem row_slice {W:World} {b z n:Nat} {e:TypeId} {v:Value} {xs:List Value} (h:W.ownsRow b e z v n xs):∃ a c,v=.slice a n c:=by
 rcases h.2 with ⟨rfl,rfl⟩ | ⟨g,cap,cur,rfl,_⟩
 ·exact ⟨_,_,rfl⟩
 ·exact ⟨_,_,rfl⟩
theorem implValid (s:ByteArray) {W:World} {b g0:Nat} {u:Value} {ls:List (List UInt8)} (hg:W.heap[g0]?=some (.cells #[.string s,u] 126 (0,0))) (h:W.ownsRow b 9 1 u ls.length (ls.map sv)) (hs:s.size<=maxLen) (hx:∀ x∈ls,x.length<=maxLen) (hn:ls.length<=10000000) :
  Rt 210 #[.pointer (some ⟨g0,0,none⟩)] W (.bool (constOk s.data.toList ls)):=by
 obtain ⟨a0,cap,rfl⟩:=row_slice h;have f1:=Ld fun W=>implNameOk s W hs;have HC:Hid (constOk s.data.toList ls=(nameOk s.data.toList && decide (ls.length<=3) && ls.all levelOk)):=rfl;have c0:W.cell? ⟨g0,0,none⟩=some (.string s):=by rw [Lib.cell_of_heap hg];rfl
 have HG:=Ld hg;have HO:=Ld h;clear h hg;by_cases hok:nameOk s.data.toList=true;rotate_left
 ·rw [Bool.not_eq_true] at hok;have HE:Hid (constOk s.data.toList ls=false):=(by rw [Hid,HC.out,hok];rfl);rw [hok] at f1;clear hok HC;go_enter Tryz.func210,Tryz.ntmps210;go_wp2_with fail;(with_reducible refine mo (f1.out _) fun w1 hb1=>?_);go_wp2;go_ret;rw [HE.out];exact ⟨rfl,hb1⟩
 rw [hok] at HC f1;simp only [Bool.true_and] at HC;clear hok;go_enter Tryz.func210,Tryz.ntmps210;go_wp2_with fail;(with_reducible refine mo (f1.out _) fun w1 hb1=>?_);have blk:=blk_below HG.out hb1;have h1:=own_below HO.out hb1;have c1:w1.cell? ⟨g0,1,none⟩=some (.slice a0 ls.length cap):=by rw [Lib.cell_of_heap blk];rfl
 have HB1:=Ld hb1;clear hb1 HO f1 blk c0 HG;by_cases h3:ls.length<=3;rotate_left
 ·have HE:Hid (constOk s.data.toList ls=false):=(by rw [Hid,HC.out,dF h3];rfl);have d1:decide ((3:Int) < (ls.length:Int))=true:=dT (by omega);clear HC h1;go_wp2;go_ret;rw [HE.out];exact ⟨rfl,HB1.out⟩
 rw [dT h3] at HC;simp only [Bool.true_and] at HC;have d1:decide ((3:Int) < (ls.length:Int))=false:=dF (by omega);have f3:=Ld fun (x:List UInt8) (hm:x∈ls) W=>implLevelOk ⟨x.toArray⟩ W (by simpa [ByteArray.size] using hx x hm);simp only at f3;clear hx;go_wp2;go_loopw [24] (fun i wr=>∃ k:Nat,k<=ls.length/\i=.int .i64 k/\wr=w1/\Hid (ls.all levelOk=(ls.drop k).all levelOk)) (fun i _=>ls.length - (intOf i).toNat)
 case atStart=>exact ⟨0,Nat.zero_le _,rfl,rfl,by simp [Hid]⟩
 case round =>
  obtain ⟨k,hk,rfl,rfl,HA⟩:=hrel;by_cases hlt:k < ls.length
  ·obtain ⟨g,cap',e0,_,hgl⟩:=h1.form (by omega);cases e0;have ex:(ls.map sv)[k]?=some (sv ls[k]):=(by simp [hlt]);have cc:=(h1.cellAt k (by omega)).trans ex;unfold sv at cc;have q1:=zn k;have q2:(k:Int) < (ls.length:Int):=(by omega);have g3:=Ld (f3.out ls[k] (List.getElem_mem hlt));have HA2:Hid (ls.all levelOk=(levelOk ls[k] && (ls.drop (k+1)).all levelOk)):=(by rw [Hid,HA.out,List.drop_eq_getElem_cons hlt];rfl);clear ex HA f3;generalize levelOk ls[k]=ok at g3 HA2;generalize ls[k]=x at cc g3;cases ok
   ·have HE:Hid (constOk s.data.toList ls=false):=(by rw [Hid,HC.out,HA2.out];rfl);clear HA2 HC;go_wp2_with fail;(with_reducible refine mo (g3.out _) ?_);rintro w2 rfl;go_wp2;go_ret;rw [HE.out];exact ⟨rfl,HB1.out⟩
   ·have HN:Hid (ls.all levelOk=(ls.drop (k+1)).all levelOk):=(by rw [Hid,HA2.out,Bool.true_and]);clear HA2;go_wp2_with fail;(with_reducible refine mo (g3.out _) ?_);rintro w2 rfl;go_wp2;go_roundw
    case rel=>exact ⟨k+1,by omega,by go_num,trivial,HN.out⟩
    case measure=>simp [intOf];omega
  ·have HE:Hid (constOk s.data.toList ls=true):=(by rw [Hid,HC.out,HA.out,List.drop_of_length_le (by omega)];rfl);have dk:decide ((k:Int) < (ls.length:Int))=false:=dF (by omega);clear HA f3 h1 HC;go_wp2;go_ret;rw [HE.out];exact ⟨rfl,HB1.out⟩
theorem RB.grown {N:Nat} {s:ByteArray} {W W':World} {row:Option Nat} (h:RB N s W) (hg:W.grownBy W' row) (hr:row≠some N):RB N s W':=h.kept hg (.inr fun e=>hr e.symm)
theorem RB.lt {N:Nat} {s:ByteArray} {W:World} (h:RB N s W):N < W.heap.size:=(World.ownsRow.lt h N rfl).2
theorem grown_set (w:World) (b i:Nat) (v:Value):w.grownBy (w.setCell ⟨b,i,none⟩ v) (some b) := ⟨rfl,rfl,rfl,by simp [World.setCell],fun k _ hk=>Below.heap_setCell _ _ _ _ (fun e=>hk (by simp [e]))⟩
theorem grown_then {a b c:World} {row row':Option Nat} (h:a.grownBy b row) (k:b.grownBy c row') (hr:∀ j,row'=some j->a.heap.size<=j\/row=some j):a.grownBy c row := ⟨k.os.trans h.os,k.tape.trans h.tape,k.output.trans h.output,Nat.le_trans h.size k.size,fun i hi hn=>(k.block i (Nat.lt_of_lt_of_le hi h.size) (fun e=>by
  rcases hr i e.symm with h1 | h1
  ·omega
  ·exact hn h1.symm)).trans (h.block i hi hn)⟩
theorem own_base {W:World} {b b' z n:Nat} {e:TypeId} {v:Value} {xs:List Value} (h:W.ownsRow b e z v n xs) (hb:b'<=b):W.ownsRow b' e z v n xs:=by
 refine ⟨h.1,?_⟩;rcases h.2 with h1 | ⟨g,cap,cur,h1,h2,h3⟩
 ·exact .inl h1
 ·exact .inr ⟨g,cap,cur,h1,Nat.le_trans hb h2,h3⟩
def strLen:Value->Nat | .string s=>s.size | _=>0
abbrev CBox (B C:Nat) (n:List UInt8) (ls:List (List UInt8)) (W:World):Prop:=Lib.BuilderAt 126 9 B C (.string ⟨n.toArray⟩) (ls.map sv) W
theorem implConstant (s:ByteArray) {N:Nat} {W:World} (h:RB N s W) (hm:s.size<=2000) :
  Calls Tryz.prog 173 #[.pointer (some ⟨N,0,none⟩)] W (NextPost N (99 :: s.data.toList) W):=by
 rcases hc:cutC 59 s.data.toList with ⟨n,r1,b1⟩;rcases hc2:cutC 46 r1 with ⟨q,r,b2⟩;have hls:s.data.toList.length=s.size:=rfl;obtain ⟨hl1,hl2⟩:=cutC_len hc;obtain ⟨hl3,hl4⟩:=cutC_len hc2;rw [hls] at hl1 hl2;have HNo:Hid (∀ t r',Tat (99 :: s.data.toList) t r'->b1=true/\b2=true/\∃ ls,constOk n ls=true/\q=lvsB ls):=fun t r' ht=>by
  obtain ⟨n',ls,h1,h2,h3⟩:=tat_const ht;rw [h3,cutC_split _ (name_no59 h1.1)] at hc;simp only [Prod.mk.injEq] at hc;obtain ⟨rfl,rfl,rfl⟩:=hc;rw [cutC_split _ (lvsB_no46 h1.2.2)] at hc2;simp only [Prod.mk.injEq] at hc2;obtain ⟨rfl,rfl,rfl⟩:=hc2;exact ⟨rfl,rfl,ls,constOk_iff.2 h1,rfl⟩
 have HYes:Hid (b1=true->b2=true->∀ ls,constOk n ls=true->q=lvsB ls->Tat (99 :: s.data.toList) (.const n ls) r):=fun e1 e2 ls hok hq=>by
  subst e1 e2;obtain ⟨_,h2⟩:=cutC_true hc;obtain ⟨_,h3⟩:=cutC_true hc2;refine ⟨constOk_iff.1 hok,?_⟩;rw [h2,h3,hq];simp [Tm.bytes]
 have f1:=Ld (implBefore 59 s h (by unfold maxLen;omega) hc);have hz1:(⟨r1.toArray⟩:ByteArray).size=r1.length:=by simp [ByteArray.size]
 have hzn:(⟨n.toArray⟩:ByteArray).size=n.length:=by simp [ByteArray.size]
 have f2:=Ld fun W1 (h1:RB N ⟨r1.toArray⟩ W1)=>implBefore 46 ⟨r1.toArray⟩ h1 (by unfold maxLen;omega) hc2;have hNW:=h.lt;clear h hc hc2 hls hl4;go_enter Tryz.func173,Tryz.ntmps173;go_wp2_with fail;(with_reducible refine f1.out.mono ?_);rintro e w1 ⟨rfl,hr1,hg1⟩;have HR1:=Ld hr1;have HG1:=Ld hg1;clear hr1 hg1;go_wp2_with fail;(with_reducible refine (f2.out _ HR1.out).mono ?_);rintro e w2 ⟨rfl,hr2,hg2⟩;have HR2:=Ld hr2;have HG2:=Ld (HG1.out.trans hg2);have hz2:=HG2.out.size;clear hr2 hg2 HR1 HG1 f1 f2;cases b1
 ·have HX:Hid (∀ t r',¬ Tat (99 :: s.data.toList) t r'):=fun t r' ht=>by cases (HNo.out t r' ht).1
  clear HNo HYes;go_wp2;go_ret2;exact NextPost.no HG2.out HX.out HR2.out
 cases b2
 ·have HX:Hid (∀ t r',¬ Tat (99 :: s.data.toList) t r'):=fun t r' ht=>by cases (HNo.out t r' ht).2.1
  clear HNo HYes;go_wp2;go_ret2;exact NextPost.no HG2.out HX.out HR2.out
 have HNo2:Hid (∀ t r',Tat (99 :: s.data.toList) t r'->∃ ls,constOk n ls=true/\q=lvsB ls):=fun t r' ht=>(HNo.out t r' ht).2.2;have HYes2:=Ld (HYes.out rfl rfl);clear HNo HYes;have hq2:q.length<=2000:=by omega
 obtain ⟨i0,hi,hz0,hz1',hz2'⟩:=info_parts infoStr;go_wp2;go_loopw [6] (fun i wr=>∃ (acc:List (List UInt8)) (rest:List UInt8),i=.string ⟨rest.toArray⟩/\CBox W.heap.size w2.heap.size n acc wr/\RB N ⟨r.toArray⟩ wr/\W.grownBy wr (some N)/\Hid (q=lvsB acc ++ rest/\∀ x∈acc,(44:UInt8)∉x)) (fun i _=>strLen i)
 case atStart =>
  refine ⟨[],q,rfl,⟨hz2,.slice none 0 0,heap_alloc_new w2 _,World.ownsRow_nil _ _ _ _,by simp [Value.ownBlock]⟩,HR2.out.alloc _,HG2.out.trans (grownBy_of_below (Below.alloc (bR _ _) (nR _) _) _),by simp [lvsB],by simp⟩
 case round =>
  obtain ⟨acc,rest,rfl,⟨hCB,lv,hblk,hown,hne⟩,hrb,hgr,HQ⟩:=hrel;obtain ⟨la,lcap,rfl⟩:=row_slice hown;have hql:=congrArg List.length HQ.out.1;rw [lA] at hql;have hal:=lvsB_leI (ls:=acc);have hzr:(⟨rest.toArray⟩:ByteArray).size=rest.length:=(by simp [ByteArray.size]);have hzw:=hgr.size;have HRB:=Ld hrb;have HGR:=Ld hgr;clear hrb hgr HR2 HG2;cases rest with
  | nil =>
   have hq:q=lvsB acc:=(by have:=HQ.out.1;rwa [List.append_nil] at this);have hle:∀ x∈acc,x.length<=2000:=fun x hx=>by have:=hal.2 x hx;omega
   have hown2:wr.ownsRow W.heap.size 9 1 (.slice la acc.length lcap) acc.length (acc.map sv):=(by simpa using hown);have hblk2:wr.heap[w2.heap.size]?=some (.cells #[.string ⟨n.toArray⟩,.slice la acc.length lcap] 126 (0,0)):=(by simpa using hblk);have f3:=Ld (implValid ⟨n.toArray⟩ hblk2 hown2 (by unfold maxLen;omega) (fun x hx=>by have:=hle x hx;unfold maxLen;omega) (by have:=hal.1;omega));have HNo3:Hid (constOk n acc=false->∀ t r',¬ Tat (99 :: s.data.toList) t r'):=fun hf t r' ht=>by
    obtain ⟨ls,h1,h2⟩:=HNo2.out t r' ht;have h3:=(constOk_iff.1 h1).2.2;rw [hq] at h2;rw [lvsB_inj HQ.out.2 (fun x hx=>(level_clean (h3 x hx)).2) h2,h1] at hf;cases hf
   have HYes3:Hid (constOk n acc=true->Tat (99 :: s.data.toList) (.const n acc) r):=fun hf=>HYes2.out acc hf hq;simp only at f3;generalize constOk n acc=ok at f3 HNo3 HYes3;have HO:=Ld hown2;have HBK:=Ld hblk2;clear hown hown2 hle hq hql hal HQ hblk hblk2;go_wp2_with fail;(with_reducible refine mo f3.out fun w3 hb3=>?_);have HB3:=Ld hb3;have HBK3:=Ld (blk_below HBK.out hb3);clear hb3;cases ok
   ·have HX:=Ld (HNo3.out rfl);clear HNo3 HYes3;go_wp2;go_ret2;exact NextPost.no (HGR.out.trans (grownBy_of_below HB3.out _)) HX.out (HRB.out.below HB3.out)
   ·have HX:=Ld (HYes3.out rfl);clear HNo3 HYes3;go_wp2;go_ret2;exact NextPost.ok (HGR.out.trans (grownBy_of_below HB3.out _)) HX.out (HRB.out.below HB3.out) ⟨_,_,rfl,HBK3.out,own_below (own_base HO.out (Nat.zero_le _)) HB3.out⟩
  | cons x rest =>
   rcases hh:cutC 44 (x :: rest) with ⟨p,r2,b⟩;have f3:=Ld fun Wx=>cutAtC 44 ⟨(x :: rest).toArray⟩ Wx (by unfold maxLen;rw [hzr];omega);have hne2:((x :: rest:List UInt8) == [])=false:=rfl;have hk2:=cutC_len hh;simp only [hh,CutRes] at f3;cases b
   ·have HX:Hid (∀ t r',¬ Tat (99 :: s.data.toList) t r'):=fun t r' ht=>by
     obtain ⟨ls,h1,h2⟩:=HNo2.out t r' ht;exact (cutC_false hh).1 (lvsB_rest (h2.symm.trans HQ.out.1) (by simp))
    clear HNo2 HYes2 HQ hh hown hblk hne hal hql;go_wp2_with fail;(with_reducible refine (f3.out _).mono ?_);rintro e w3 ⟨rfl,z,rfl⟩;go_wp2;go_ret2;exact NextPost.no (HGR.out.trans (grownBy_of_below (below_drewN (bR _ _) z) _)) HX.out (own_drew HRB.out z)
   ·obtain ⟨h44,hsp⟩:=cutC_true hh;have hpl:=congrArg List.length hsp;simp only [lC,lA] at hpl;have HQ2:Hid (q=lvsB (acc ++ [p]) ++ r2/\∀ y∈acc ++ [p],(44:UInt8)∉y):=by
     refine ⟨?_,fun y hy=>?_⟩
     ·rw [HQ.out.1,hsp,lvsB_append];simp [lvsB]
     ·rcases List.mem_append.1 hy with hy | hy
      ·exact HQ.out.2 y hy
      ·rw [List.mem_singleton.1 hy];exact h44
    have HBK:=Ld hblk;have HOW:=Ld hown;have HNE:=Ld hne;have hal1:=hal.1;have hql2:acc.length<=2000:=(by omega);clear HQ hh hsp h44 hal hal1 hql hblk hown hne;go_wp2_with fail;(with_reducible refine (f3.out _).mono ?_);rintro e w3 ⟨rfl,z,rfl⟩;have hbk3:(wr.drewN z).heap[w2.heap.size]?=some (.cells #[.string ⟨n.toArray⟩,.slice la (acc.map sv).length lcap] 126 (0,0)):=HBK.out;have how3:(wr.drewN z).ownsRow W.heap.size 9 1 (.slice la (acc.map sv).length lcap) (acc.map sv).length (acc.map sv):=HOW.out;have HRB3:Hid (RB N ⟨r.toArray⟩ (wr.drewN z)):=own_drew HRB.out z;have HGR3:Hid (W.grownBy (wr.drewN z) (some N)):=HGR.out.trans (grownBy_of_below (below_drewN (bR _ _) z) _);generalize wr.drewN z=wd at hbk3 how3 HRB3 HGR3;clear HBK HOW HRB HGR;rw [List.length_map] at hbk3 how3;have c1:wd.cell? ⟨w2.heap.size,1,none⟩=some (.slice la acc.length lcap):=(by rw [Lib.cell_of_heap hbk3];rfl);have hlt:w2.heap.size < wd.heap.size:=by
     rcases Nat.lt_or_ge w2.heap.size wd.heap.size with h' | h'
     ·exact h'
     ·rw [Array.getElem?_eq_none h'] at hbk3;cases hbk3
    go_wp2_with (at_builtin;refine wpList_append_own _ rfl _ _ 31 rfl W.heap.size 9 i0 _ 1 16 Tryz.underlying31 hi hz0 hz1' hz2' rfl (by decide) _ _ _ rfl (how3.alloc _) ⟨wd.heap.size,0,none⟩ 1 1 [.string ⟨p.toArray⟩] rfl rfl (oneNew _ _ _) (by simp [Value.oneCell']) (by simp only [maxLen];omega) (by omega) (by simp;omega) ?_);intro v1 w4 how4 hg4 _;have hne4:(Value.slice la acc.length lcap).ownBlock≠some w2.heap.size:=by
     have:=HNE.out;rw [List.length_map] at this;exact this
    have hbk4:w4.heap[w2.heap.size]?=some (.cells #[.string ⟨n.toArray⟩,.slice la acc.length lcap] 126 (0,0)):=by
     rw [hg4.block _ (by simp;omega) (fun e=>hne4 e.symm),Below.heap_alloc _ _ _ hlt];exact hbk3
    obtain ⟨a1,lc1,rfl⟩:=row_slice how4;have k1:w4.cell? ⟨w2.heap.size,1,none⟩=some (.slice la acc.length lcap):=(by rw [Lib.cell_of_heap hbk4];rfl);have y1:w4.frozen? ⟨w2.heap.size,1,none⟩=false:=Lib.frozen_of_heap hbk4 1;have hrow:∀ k,(Value.slice la acc.length lcap).ownBlock=some k->W.heap.size<=k:=fun k hk=>(how3.lt k hk).1;have HR4:Hid (RB N ⟨r.toArray⟩ (w4.setCell ⟨w2.heap.size,1,none⟩ (.slice a1 (acc.length+1) lc1))) :=
     ((RB.alloc HRB3.out _).grown hg4 (fun e=>by have:=hrow N e;omega)).grown (grown_set _ _ _ _) (fun e=>by injection e with e;omega)
    have HG4:Hid (W.grownBy (w4.setCell ⟨w2.heap.size,1,none⟩ (.slice a1 (acc.length+1) lc1)) (some N)) :=
     grown_then (grown_then (HGR3.out.trans (grownBy_of_below (Below.alloc (bR _ _) (nR _) _) _)) hg4 (fun j hj=>.inl (hrow j hj))) (grown_set _ _ _ _) (fun j hj=>.inl (by injection hj with hj;omega))
    have HB4:Hid (CBox W.heap.size w2.heap.size n (acc ++ [p]) (w4.setCell ⟨w2.heap.size,1,none⟩ (.slice a1 (acc.length+1) lc1))) :=
     Lib.BuilderAt.put hCB hbk4 (by simpa [sv] using how4) (by decide)
    clear hbk4 how4 hg4 hne4 how3 hbk3 hrow HRB3 HGR3 HNE;go_wp2;go_roundw
    case rel=>exact ⟨acc ++ [p],r2,rfl,HB4.out,HR4.out,HG4.out,HQ2.out⟩
    case measure=>simp [strLen,ByteArray.size];omega
def Parts (l:List UInt8):List Tm->List UInt8->Prop
 | [],r=>l=r
 | t :: ts,r=>∃ q,Tat l t q/\Parts q ts r
theorem Parts.snoc:∀ {ts:List Tm} {l q r:List UInt8} {t:Tm},Parts l ts q->Tat q t r->Parts l (ts ++ [t]) r
 | [],_,_,_,_,h,k=>by cases h;exact ⟨_,k,rfl⟩
 | _ :: _,_,_,_,_,⟨q,h1,h2⟩,k=>⟨q,h1,Parts.snoc h2 k⟩
theorem Parts.len:∀ {ts:List Tm} {l r:List UInt8},Parts l ts r->r.length<=l.length
 | [],_,_,h=>by cases h;exact nR _
 | _ :: _,_,_,⟨q,h1,h2⟩=>by
  have:=Parts.len h2;rw [h1.2,lA];omega
theorem Parts.stop:∀ {ts us:List Tm} {l q r:List UInt8},Parts l ts q->Parts l us r->ts.length < us.length->(∀ t p,¬ Tat q t p)->False
 | [],[],_,_,_,_,_,h,_=>by simp at h
 | [],u :: us,_,_,_,h1,⟨_,h2,_⟩,_,h=>by cases h1;exact h _ _ h2
 | _ :: _,[],_,_,_,_,_,h,_=>by simp at h
 | t :: ts,u :: us,_,_,_,⟨q1,h1,h2⟩,⟨q2,k1,k2⟩,hl,h=>by
  obtain ⟨rfl,rfl⟩:=h1.uniq k1;exact Parts.stop h2 k2 (by simpa using hl) h
def IReps (W:World):List Tm->List Value->Prop
 | [],[]=>True
 | t :: ts,v :: vs=>IRep W t v/\IReps W ts vs
 | _,_=>False
theorem IReps.grown {W W':World} {row:Option Nat} (hg:W.grownBy W' row) (hn:NoStr W row):∀ {ts:List Tm} {vs:List Value},IReps W ts vs->IReps W' ts vs
 | [],[],_=>trivial
 | _ :: _,_ :: _,⟨h1,h2⟩=>⟨h1.grown hg hn,IReps.grown hg hn h2⟩
 | [],_ :: _,h=>h
 | _ :: _,[],h=>h
theorem IReps.snoc {W:World} {t:Tm} {v:Value} (k:IRep W t v):∀ {ts:List Tm} {vs:List Value},IReps W ts vs->IReps W (ts ++ [t]) (vs ++ [v])
 | [],[],_=>⟨k,trivial⟩
 | _ :: _,_ :: _,⟨h1,h2⟩=>⟨h1,IReps.snoc k h2⟩
 | [],_ :: _,h=>h.elim
 | _ :: _,[],h=>h.elim
theorem IReps.len {W:World}:∀ {ts:List Tm} {vs:List Value},IReps W ts vs->vs.length=ts.length
 | [],[],_=>rfl
 | _ :: _,_ :: _,⟨_,h⟩=>by simp [IReps.len h]
 | [],_ :: _,h=>h.elim
 | _ :: _,[],h=>h.elim
theorem list_two {α:Type}:∀ {l:List α},l.length=2->∃ a b,l=[a,b]
 | [a,b],_=>⟨a,b,rfl⟩
 | [],h=>by simp at h
 | [_],h=>by simp at h
 | _ :: _ :: _ :: _,h=>by simp at h
theorem list_three {α:Type}:∀ {l:List α},l.length=3->∃ a b c,l=[a,b,c]
 | [a,b,c],_=>⟨a,b,c,rfl⟩
 | [],h=>by simp at h
 | [_],h=>by simp at h
 | [_,_],h=>by simp at h
 | _ :: _ :: _ :: _ :: _,h=>by simp at h
def NextAll (w0:World) (n:Nat):Prop:=∀ (s:ByteArray) (N:Nat) (W:World),s.size<=n->s.size<=2000->RB N s W->Below w0.heap.size w0 W->w0.heap.size<=N ->
 Calls Tryz.prog 129 #[.pointer (some ⟨N,0,none⟩)] W (NextPost N s.data.toList W)
def KindOf (k:UInt8) (c:Nat):Prop:=(c=2/\(k=64\/k=108\/k=112))\/(c=3/\k=116)
theorem kind_parts {k:UInt8} {c:Nat} (hk:KindOf k c) {l r:List UInt8} {t:Tm} (h:Tat (k :: l) t r):∃ us,us.length=c/\Parts l us r:=by
 rcases hk with ⟨rfl,hk⟩ | ⟨rfl,rfl⟩
 ·obtain ⟨a,b,q,_,h1,h2⟩:=tat_two hk h;exact ⟨[a,b],rfl,q,h1,_,h2,rfl⟩
 ·obtain ⟨a,b,d,q,p,_,h1,h2,h3⟩:=tat_three h;exact ⟨[a,b,d],rfl,q,h1,p,h2,_,h3,rfl⟩
theorem infoTerm:(Tryz.prog.info? 115).map (fun i=>(i.zero,i.size,i.bytes))=some (some .nilIface,1,16):=by kernel_rfl
theorem implCompound {w0:World} {n:Nat} (ih:NextAll w0 n) (k:UInt8) (c:Nat) (hk:KindOf k c) (s:ByteArray) {N:Nat} {W:World} (hs:s.size<=n) (hm:s.size<=2000) (h:RB N s W) (hb:Below w0.heap.size w0 W) (hN:w0.heap.size<=N) :
  Calls Tryz.prog 174 #[.pointer (some ⟨N,0,none⟩),.int .u8 (k.toNat:Int),.int .i64 (c:Int)] W (NextPost N (k :: s.data.toList) W):=by
 have hls:s.data.toList.length=s.size:=rfl;have hNW:=h.lt;have hc3:c<=3:=by rcases hk with ⟨rfl,_⟩ | ⟨rfl,_⟩<;>omega
 obtain ⟨i0,hi,hz0,hz1,hz2⟩:=info_parts infoTerm;have HK:=Ld hk;have HR:=Ld h;have HB0:=Ld hb;have IH:=Ld ih;clear hk h hb ih;go_enter Tryz.func174,Tryz.ntmps174;go_wp2_with (at_make;refine wpList_make_own _ rfl _ _ 188 rfl W.heap.size 115 i0 _ 1 Tryz.underlying188 hi hz0 hz1 _ _ _ c rfl rfl rfl (by rw [hz2];omega) (by unfold maxLen;omega) (nR _) ?_);intro w1 hown1 hg1;have HG1:=Ld (grownBy_of_below (w:=W) (w':=w1) ⟨hg1.os,hg1.tape,hg1.output,hg1.size,fun i hi=>hg1.block i hi (by simp)⟩ (some N));have HO1:=Ld hown1;have HR1:=Ld (HR.out.grown hg1 (by simp));clear hown1 hg1;go_wp2;go_loopw [8,14] (fun v i wr=>∃ (ts:List Tm) (vs:List Value) (q:List UInt8),i=.int .i64 (ts.length:Int)/\ts.length<=c/\v=.slice (some ⟨W.heap.size,0,none⟩) ts.length c/\Hid (Parts s.data.toList ts q)/\IReps wr ts vs/\wr.ownsRow W.heap.size 115 1 (.slice (some ⟨W.heap.size,0,none⟩) ts.length c) ts.length vs/\RB N ⟨q.toArray⟩ wr/\W.grownBy wr (some N)) (fun _ i _=>c - (intOf i).toNat)
 case atStart=>exact ⟨[],[],s.data.toList,rfl,Nat.zero_le _,rfl,rfl,trivial,HO1.out,HR1.out,HG1.out⟩
 case round =>
  obtain ⟨ts,vs,q,rfl,hlen,rfl,HP,hirs,hown,hrb,hgr⟩:=hrel;have hql:=HP.out.len;rw [hls] at hql;have HIR:=Ld hirs;have HOW:=Ld hown;have HRB:=Ld hrb;have HGR:=Ld hgr;have hzw:=hgr.size;clear hirs hown hrb hgr HR1 HO1 HG1;by_cases hlt:ts.length < c
  ·have hzq:(⟨q.toArray⟩:ByteArray).size=q.length:=(by simp [ByteArray.size]);have f1:=Ld (IH.out ⟨q.toArray⟩ N wr (by omega) (by omega) HRB.out (HB0.out.grown HGR.out HB0.out.size (fun j hj=>by injection hj with hj;omega)) hN);simp only at f1;have d1:decide ((ts.length:Int) < (c:Int))=true:=dT (by omega);go_wp2_with fail;(with_reducible refine f1.out.mono ?_);rintro e w2 ⟨hg2,⟨t,v,r,ht,rfl,hr2,hv2⟩ | ⟨hno,rfl,s2,hr2⟩⟩
   ·have HT:Hid (Parts s.data.toList (ts ++ [t]) r):=HP.out.snoc ht;have HO2:=Ld (HOW.out.kept hg2 (.inr (by simp [Value.ownBlock];omega)));have HI2:=Ld (IReps.grown hg2 HRB.out.noStr HIR.out);have HG2:=Ld (HGR.out.trans hg2);have HR2:=Ld hr2;have HV2:=Ld hv2;obtain ⟨T,x,rfl⟩:=hv2.iface;have hz2w:=HG2.out.size;clear hg2 hr2 hv2 ht HIR HOW HRB HGR HP f1;go_wp2_with (at_builtin;refine wpList_append_fits _ rfl _ _ 188 rfl W.heap.size 115 i0 1 Tryz.underlying188 hi hz1 W.heap.size ts.length c vs rfl (HO2.out.alloc _) ⟨w2.heap.size,0,none⟩ 1 1 [.iface T x] rfl rfl (oneNew _ _ _) (by simp [Value.oneCell']) (by omega) ?_);intro w3 how3 hg3;have HA:Hid (W.grownBy (w2.alloc (.cells #[.iface T x] 115)) (some N)):=HG2.out.trans (grownBy_of_below (Below.alloc (bR _ _) (nR _) _) _);have hns:NoStr (w2.alloc (.cells #[.iface T x] 115)) (some W.heap.size):=NoStr.own (HO2.out.alloc _) (by decide);have HI3:Hid (IReps w3 (ts ++ [t]) (vs ++ [.iface T x])):=IReps.grown hg3 hns (IReps.grown (grownBy_of_below (Below.alloc (bR _ _) (nR _) _) none) (NoStr.none _) (HI2.out.snoc HV2.out));have HR3:Hid (RB N ⟨r.toArray⟩ w3):=(RB.alloc HR2.out _).grown hg3 (by simp;omega);have HG3:Hid (W.grownBy w3 (some N)):=grown_then HA.out hg3 (fun j hj=>.inl (by injection hj with hj;omega));have HO3:=Ld how3;clear how3 hg3 hns HA HI2 HR2 HG2 HO2 HV2;go_wp2;go_roundw
    case rel=>exact ⟨ts ++ [t],vs ++ [.iface T x],r,by simp,by simp;omega,by simp,HT.out,HI3.out,by simpa using HO3.out,HR3.out,HG3.out⟩
    case measure=>simp [intOf];omega
   ·have HX:Hid (∀ t r',¬ Tat (k :: s.data.toList) t r'):=fun t r' ht=>by
     obtain ⟨us,h1,h2⟩:=kind_parts HK.out ht;exact HP.out.stop h2 (by omega) hno
    have HG2:=Ld (HGR.out.trans hg2);have HR2:=Ld hr2;clear hg2 hr2 hno HIR HOW HRB HGR HP f1;go_wp2;go_ret2;exact NextPost.no HG2.out HX.out HR2.out
  ·have d1:decide ((ts.length:Int) < (c:Int))=false:=dF (by omega);have hvl:=HIR.out.len;rcases HK.out with ⟨rfl,hk⟩ | ⟨rfl,hk⟩
   ·have hl2:ts.length=2:=(by omega);obtain ⟨a,b,rfl⟩:=list_two hl2;obtain ⟨x,y,rfl⟩:=list_two (hvl.trans hl2);obtain ⟨p,ha,p2,hb2,rfl⟩:=HP.out;obtain ⟨hx,hy,_⟩:=HIR.out;have c0:wr.cell? ⟨W.heap.size,0,none⟩=some x:=HOW.out.cellAt 0 (by simp);have c1:wr.cell? ⟨W.heap.size,1,none⟩=some y:=HOW.out.cellAt 1 (by simp);have HX:=Ld (two_tat hk ha hb2);have HI1:=Ld hx;have HI2:=Ld hy;obtain ⟨T1,x1,rfl⟩:=hx.iface;obtain ⟨T2,y1,rfl⟩:=hy.iface;clear HP HIR hlen ha hb2 hx hy hl2 hvl hql HK HOW;simp only [lC,List.length_nil] at d1;rcases hk with rfl | rfl | rfl
    all_goals
     go_wp2;go_region
     all_goals
      go_wp2;go_ret2;exact NextPost.ok (HGR.out.trans ((grownBy_of_below (below_drewN (bR _ _) 1) _).trans (alloc_grown _ _ _))) HX.out ((own_drew HRB.out 1).alloc _) ⟨_,_,_,rfl,heap_alloc_new _ _,(HI1.out.below (below_drewN (bR _ _) 1)).below (Below.alloc (bR _ _) (nR _) _),(HI2.out.below (below_drewN (bR _ _) 1)).below (Below.alloc (bR _ _) (nR _) _)⟩
   ·have hl3:ts.length=3:=(by omega);obtain ⟨a,b,d,rfl⟩:=list_three hl3;obtain ⟨x,y,z,rfl⟩:=list_three (hvl.trans hl3);obtain ⟨p,ha,p2,hb2,p3,hd,rfl⟩:=HP.out;obtain ⟨hx,hy,hz,_⟩:=HIR.out;have c0:wr.cell? ⟨W.heap.size,0,none⟩=some x:=HOW.out.cellAt 0 (by simp);have c1:wr.cell? ⟨W.heap.size,1,none⟩=some y:=HOW.out.cellAt 1 (by simp);have c2:wr.cell? ⟨W.heap.size,2,none⟩=some z:=HOW.out.cellAt 2 (by simp);have HX:=Ld (three_tat ha hb2 hd);have HI1:=Ld hx;have HI2:=Ld hy;have HI3:=Ld hz;obtain ⟨T1,x1,rfl⟩:=hx.iface;obtain ⟨T2,y1,rfl⟩:=hy.iface;obtain ⟨T3,z1,rfl⟩:=hz.iface;subst hk;clear HP HIR hlen ha hb2 hd hx hy hz hl3 hvl hql HK HOW;simp only [lC,List.length_nil] at d1;go_wp2;go_region
    all_goals
     go_wp2;go_ret2;exact NextPost.ok (HGR.out.trans ((grownBy_of_below (below_drewN (bR _ _) 1) _).trans (alloc_grown _ _ _))) HX.out ((own_drew HRB.out 1).alloc _) ⟨_,_,_,_,rfl,heap_alloc_new _ _,(HI1.out.below (below_drewN (bR _ _) 1)).below (Below.alloc (bR _ _) (nR _) _),(HI2.out.below (below_drewN (bR _ _) 1)).below (Below.alloc (bR _ _) (nR _) _),(HI3.out.below (below_drewN (bR _ _) 1)).below (Below.alloc (bR _ _) (nR _) _)⟩
theorem var_below {P:Program} {w w':World} {n:String} {cs:Array Value} (h:w.var? P n=some cs) (hb:Below w.heap.size w w'):w'.var? P n=some cs:=by
 unfold World.var? at h |-;obtain ⟨g,hg,hx⟩:=Option.bind_eq_some_iff.1 h;rw [hg];show (match w'.heap[g]? with | some (.cells cs _ _)=>some cs | _=>none)=some cs;rcases Nat.lt_or_ge g w.heap.size with hlt | hge
 ·rw [hb.block g hlt];exact hx
 ·rw [Array.getElem?_eq_none hge] at hx;cases hx
theorem below_grow (w:World) (k:Nat) (os:Array Obj):Below w.heap.size w (Sort.grow (w.drewN k) os):=by
 refine ⟨rfl,rfl,rfl,?_,fun i hi=>?_⟩
 ·show w.heap.size<=(w.heap ++ os).size;simp
 ·show (w.heap ++ os)[i]?=w.heap[i]?;rw [Array.getElem?_append_left hi]
def tabName:String:="internal/strconv.uint64pow10"
theorem implDecimal (n:Int) (w:World) (h0:-9223372036854775808<=n) (h1:n<=9223372036854775807) (htab:Lib.TabIs Tryz.prog w tabName .u64 Lib.pow10Tab) :
  Rt 218 #[.int .i64 n] w (.string ⟨(Lib.itoa n).toArray⟩):=by
 have f:=Ld (Tryz.strconv_Itoa n h0 h1 w htab);clear h0 h1 htab;go_enter Tryz.func218,Tryz.ntmps218;go_wp2_with fail;(with_reducible refine f.out.mono ?_);rintro e w' ⟨rfl,k,os,rfl⟩;go_wp2;go_ret;exact ⟨rfl,below_grow w k os⟩
structure Vars (w:World):Prop where
 tab:Lib.TabIs Tryz.prog w tabName .u64 Lib.pow10Tab
 bad:∃ tp p,w.var? Tryz.prog "strconv.ErrSyntax"=some #[.iface tp p]
 far:∃ tp p,w.var? Tryz.prog "strconv.ErrRange"=some #[.iface tp p]
theorem Vars.below {w w':World} (h:Vars w) (hb:Below w.heap.size w w'):Vars w' := ⟨var_below h.tab hb,let ⟨tp,p,e⟩:=h.bad;⟨tp,p,var_below e hb⟩,let ⟨tp,p,e⟩:=h.far;⟨tp,p,var_below e hb⟩⟩
theorem atoi_any (s:ByteArray) (w:World) (hs:s.size<=281474976710656) (hv:Vars w) :
  (∃ v,Lib.atoiAll s.data.toList=.ok v/\Rt 236 #[.string s] w (.tuple #[.int .i64 v,.nilIface])) \/
  ((∀ v,Lib.atoiAll s.data.toList≠.ok v)/\∃ x:Int,Calls Tryz.prog 236 #[.string s] w fun e w'=>∃ N,e=.returned (.tuple #[.int .i64 x,.iface 280 (.pointer (some ⟨N,0,none⟩))])/\Below w.heap.size w w'):=by
 cases h:Lib.atoiAll s.data.toList
 ·rename_i v;refine .inl ⟨v,rfl,(Tryz.strconv_Atoi_ok s (by omega) v h w).mono ?_⟩;rintro e w' ⟨rfl,rfl | ⟨t,rfl⟩⟩
  ·exact ⟨rfl,bR _ _⟩
  ·exact ⟨rfl,Lib.bytesWorld_below _ _ _⟩
 ·obtain ⟨tp,p,hp⟩:=hv.bad;refine .inr ⟨fun v hv=>(by cases hv),0,(Go.Proofs.Any.strconv_Atoi_syntax_var Tryz.laysC172 s hs h tp p w hp).mono ?_⟩;rintro e w' ⟨N,rfl,_,_,hb⟩;exact ⟨N,rfl,hb⟩
 ·obtain ⟨tp,p,hp⟩:=hv.far;refine .inr ⟨fun v hv=>(by cases hv),Lib.atoiSat s.data.toList,(Go.Proofs.Any.strconv_Atoi_range_var Tryz.laysC172 s hs h tp p w hp).mono ?_⟩;rintro e w' ⟨N,rfl,_,_,hb⟩;exact ⟨N,rfl,hb⟩
theorem implRead (s:ByteArray) (w:World) (hs:s.size<=281474976710656) (hv:Vars w):Calls Tryz.prog 208 #[.string s] w (RdPost s.data.toList w):=by
 have HV:=Ld hv;rcases atoi_any s w hs hv with ⟨v,hok,hc⟩ | ⟨hno,x,hc⟩
 ·obtain ⟨b1,b2⟩:=Lib.atoiAll_bounds hok;have HC:=Ld hc;have HO:=Ld hok;clear hc hok hv;by_cases hx:v < 0\/1000000000 < v
  ·have HN:Hid (∀ m,¬ IsDec s.data.toList m):=fun m h=>by
    have h1:=h.atoi.symm.trans HO.out;have h2:=h.1;injection h1 with h1;omega
   clear b1 b2 hs;rcases hx with hx | hx
   all_goals
    go_enter Tryz.func208,Tryz.ntmps208;go_wp2_with fail;(with_reducible refine HC.out.mono ?_);rintro e w1 ⟨rfl,hb1⟩;go_wp2;go_ret2;exact ⟨hb1,.inr ⟨HN.out,rfl⟩⟩
  ·obtain ⟨n,rfl⟩:∃ n:Nat,v=(n:Int):=⟨v.toNat,by omega⟩;have hn:n<=1000000000:=(by omega);clear b1 b2 hs hx;have f1:=Ld fun W (hb:Below w.heap.size w W)=>implDecimal (n:Int) W (by omega) (by omega) (HV.out.below hb).tab;rw [Lib.itoa_nonneg] at f1;go_enter Tryz.func208,Tryz.ntmps208;go_wp2_with fail;(with_reducible refine HC.out.mono ?_);rintro e w1 ⟨rfl,hb1⟩;go_wp2_with fail;(with_reducible refine (f1.out _ hb1).mono ?_);rintro e w2 ⟨rfl,hb2⟩;by_cases heq:Lib.decDigits n=s.data.toList
   ·have es:(⟨(Lib.decDigits n).toArray⟩:ByteArray)=s:=str_eq (by simpa using heq);rw [es];go_wp2;go_ret2;exact ⟨hb1.trans (hb2.mono hb1.size),.inl ⟨n,⟨hn,heq⟩,rfl⟩⟩
   ·have hne:(Lib.decDigits n == s.toList)=false:=(by rw [ByteArray.toList_eq];simpa using heq);have HN:Hid (∀ m,¬ IsDec s.data.toList m):=fun m h=>by
     have h1:=h.atoi.symm.trans HO.out;injection h1 with h1;obtain rfl:m=n:=(by omega);exact heq h.2
    clear heq;go_wp2;go_ret2;exact ⟨hb1.trans (hb2.mono hb1.size),.inr ⟨HN.out,rfl⟩⟩
 ·have HN:Hid (∀ m,¬ IsDec s.data.toList m):=fun m h=>hno _ h.atoi;have HC:=Ld hc;clear hno hc hv hs;go_enter Tryz.func208,Tryz.ntmps208;go_wp2_with fail;(with_reducible refine HC.out.mono ?_);rintro e w1 ⟨N,rfl,hb1⟩;go_wp2;go_ret2;exact ⟨hb1,.inr ⟨HN.out,rfl⟩⟩
theorem implVariable (s:ByteArray) {N:Nat} {w0 W:World} (h:RB N s W) (hm:s.size<=2000) (hv:Vars w0) (hb:Below w0.heap.size w0 W) (hN:w0.heap.size<=N) :
  Calls Tryz.prog 171 #[.pointer (some ⟨N,0,none⟩)] W (NextPost N (118 :: s.data.toList) W):=by
 rcases hc:cutC 46 s.data.toList with ⟨p,r,b⟩;have hls:s.data.toList.length=s.size:=rfl;obtain ⟨hl1,hl2⟩:=cutC_len hc;rw [hls] at hl1 hl2;have HNo:Hid (∀ t r',Tat (118 :: s.data.toList) t r'->b=true/\∃ n,n<=999/\Lib.decDigits n=p):=fun t r' ht=>by
  obtain ⟨n,h1,h2,h3⟩:=tat_var ht;rw [h3,cutC_split r' (digits_no46 n)] at hc;simp only [Prod.mk.injEq] at hc;exact ⟨hc.2.2.symm,n,h1,hc.1⟩
 have HYes:Hid (b=true->∀ n,n<=999->Lib.decDigits n=p->Tat (118 :: s.data.toList) (.var n) r):=fun hb n hn hp=>by
  subst hb;obtain ⟨_,h2⟩:=cutC_true hc;refine ⟨hn,?_⟩;rw [h2,← hp];simp [Tm.bytes]
 have f1:=Ld (implBefore 46 s h (by unfold maxLen;omega) hc);have HV:Hid (∀ W1,W.grownBy W1 (some N)->Vars W1):=fun W1 hg=>hv.below (hb.grown hg hb.size (fun k hk=>by injection hk with hk;omega));have hz:(⟨p.toArray⟩:ByteArray).size=p.length:=by simp [ByteArray.size]
 have f2:=Ld fun W1 (hV:Vars W1)=>implRead ⟨p.toArray⟩ W1 (by omega) hV;simp only at f2;clear h hc hls hl2 hv hb hN;go_enter Tryz.func171,Tryz.ntmps171;go_wp2_with fail;(with_reducible refine f1.out.mono ?_);rintro e w1 ⟨rfl,hr1,hg1⟩;have HR1:=Ld hr1;have HG1:=Ld hg1;clear hr1 hg1;go_wp2_with fail;(with_reducible refine (f2.out _ (HV.out _ HG1.out)).mono ?_);rintro e w2 ⟨hb2,⟨n,hn,rfl⟩ | ⟨hn,rfl⟩⟩
 ·have HB2:=Ld hb2;have HD:=Ld hn.2;clear hb2 hn;by_cases hn9:n<=999
  ·cases b
   ·have HX:Hid (∀ t r',¬ Tat (118 :: s.data.toList) t r'):=fun t r' ht=>by cases (HNo.out t r' ht).1
    clear HNo HYes;go_wp2;go_ret2;exact NextPost.no (HG1.out.trans (grownBy_of_below HB2.out _)) HX.out (HR1.out.below HB2.out)
   ·have HX:=Ld (HYes.out rfl n hn9 HD.out);clear HNo HYes;have d1:decide ((999:Int) < (n:Int))=false:=dF (by omega);go_wp2;go_ret2;exact NextPost.ok ((HG1.out.trans (grownBy_of_below HB2.out _)).trans (alloc_grown _ _ _)) HX.out ((HR1.out.below HB2.out).alloc _) ⟨_,rfl,heap_alloc_new _ _⟩
  ·have HX:Hid (∀ t r',¬ Tat (118 :: s.data.toList) t r'):=fun t r' ht=>by
    obtain ⟨_,m,h1,h2⟩:=HNo.out t r' ht;have:=digits_inj (h2.trans HD.out.symm);omega
   clear HNo HYes;have d1:decide ((999:Int) < (n:Int))=true:=dT (by omega);cases b
   all_goals
    go_wp2;go_ret2;exact NextPost.no (HG1.out.trans (grownBy_of_below HB2.out _)) HX.out (HR1.out.below HB2.out)
 ·have HB2:=Ld hb2;have HX:Hid (∀ t r',¬ Tat (118 :: s.data.toList) t r'):=fun t r' ht=>by
   obtain ⟨_,m,h1,h2⟩:=HNo.out t r' ht;exact hn m ⟨by omega,h2⟩
  clear HNo HYes hb2 hn;cases b
  all_goals
   go_wp2;go_ret2;exact NextPost.no (HG1.out.trans (grownBy_of_below HB2.out _)) HX.out (HR1.out.below HB2.out)
theorem implSort (s:ByteArray) {N:Nat} {W:World} (h:RB N s W) (hm:s.size<=2000) :
  Calls Tryz.prog 172 #[.pointer (some ⟨N,0,none⟩)] W (NextPost N (115 :: s.data.toList) W):=by
 rcases hc:cutC 46 s.data.toList with ⟨p,r,b⟩;have hls:s.data.toList.length=s.size:=rfl;obtain ⟨hl1,hl2⟩:=cutC_len hc;rw [hls] at hl1 hl2;have HNo:Hid (∀ t r',Tat (115 :: s.data.toList) t r'->b=true/\levelOk p=true):=fun t r' ht=>by
  obtain ⟨n,h1,h2,h3⟩:=tat_sort ht;rw [h3,cutC_split r' (level_clean h1).1] at hc;simp only [Prod.mk.injEq] at hc;exact ⟨hc.2.2.symm,by rw [← hc.1];exact h1⟩
 have HYes:Hid (b=true->levelOk p=true->Tat (115 :: s.data.toList) (.sort p) r):=fun hb hp=>by
  subst hb;obtain ⟨_,h2⟩:=cutC_true hc;refine ⟨hp,?_⟩;rw [h2];simp [Tm.bytes]
 have f1:=Ld (implBefore 46 s h (by unfold maxLen;omega) hc);have hz:(⟨p.toArray⟩:ByteArray).size=p.length:=by simp [ByteArray.size]
 have f2:=Ld fun W1=>implLevelOk ⟨p.toArray⟩ W1 (by unfold maxLen;omega);simp only at f2;generalize levelOk p=ok at f2 HNo HYes;clear h hc hls hl2;go_enter Tryz.func172,Tryz.ntmps172;go_wp2_with fail;(with_reducible refine f1.out.mono ?_);rintro e w1 ⟨rfl,hr1,hg1⟩;have HR1:=Ld hr1;have HG1:=Ld hg1;clear hr1 hg1;cases b
 ·have HX:Hid (∀ t r',¬ Tat (115 :: s.data.toList) t r'):=fun t r' ht=>by cases (HNo.out t r' ht).1
  clear HNo HYes;go_wp2;go_ret2;exact NextPost.no HG1.out HX.out HR1.out
 ·go_wp2_with fail;(with_reducible refine mo (f2.out _) ?_);rintro w2 rfl;cases ok
  ·have HX:Hid (∀ t r',¬ Tat (115 :: s.data.toList) t r'):=fun t r' ht=>by cases (HNo.out t r' ht).2
   clear HNo HYes;go_wp2;go_ret2;exact NextPost.no HG1.out HX.out HR1.out
  ·have HX:=Ld (HYes.out (by simp) (by simp));clear HNo HYes;go_wp2;go_ret2;exact NextPost.ok (HG1.out.trans (alloc_grown _ _ _)) HX.out (HR1.out.alloc _) ⟨_,rfl,heap_alloc_new _ _⟩
end Go.Proofs.YtcaahdjhbmmcnaaGreatDoor
