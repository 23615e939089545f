/- Dr3 TDraw TDrL -/
import Derived.Laws.AppendOwnNone
import Derived.Test.YtgonemalnljabaaGreatDoorVJF1
import Derived.Test.YtgonemalnljabaaGreatDoorVJ0
import Derived.Test.YtgonemalnljabaaGreatDoorVG1
import Derived.Test.YtgonemalnljabaaGreatDoorVE2
set_option maxRecDepth 100000
set_option maxHeartbeats 16000000
set_option linter.unusedSimpArgs false
set_option linter.unusedVariables false
namespace Go.Proofs.YtgonemalnljabaaGreatDoor
open Go.ChangeShapes Go.WideShapes Go.ChangeAt Go.RowKit
theorem figureSmall (d:Nat) (w:World) (hd:d≤9) :
  Calls Tryz.prog 167 #[.int .i64 (d:Int)] w fun e w'=>e=.returned (.int .u8 ((48+d:Nat):Int))∧w'=w:=by
 have d1:decide ((d:Int) < 10)=true:=decide_eq_true (by omega)
 have e1:IntKind.u8.wrap (48+(d:Int))=((48+d:Nat):Int):=by rw [IntKind.wrap_u8];omega
 go_enter Tryz.func167,Tryz.ntmps167
 go_wp2
 go_ret
 refine ⟨?_,rfl⟩
 simp [e1]
theorem decimalZero (w:World):Calls Tryz.prog 112 #[.int .i64 0] w fun e w'=>e=.returned (.string ⟨#[48]⟩)∧Below w.heap.size w w':=by
 go_enter Tryz.func112,Tryz.ntmps112
 go_wp2
 go_ret
 exact ⟨rfl,Below.refl _ _⟩
theorem decimalSmall (d:Nat) (w:World) (h1:1≤d) (hd:d≤9) :
  Calls Tryz.prog 112 #[.int .i64 (d:Int)] w fun e w'=>e=.returned (.string ⟨#[UInt8.ofNat (48+d)]⟩)∧Below w.heap.size w w':=by
 have f1:=Ld fun W=>figureSmall d W hd
 have d0:((d:Int) == 0)=false:=beq_eq_false_iff_ne.2 (by omega)
 have d0':((d:Int) != 0)=true:=by rw [bne,d0];rfl
 have d1:decide ((d:Int) < 0)=false:=decide_eq_false (by omega)
 have e1:((d:Int)).tmod 10=(d:Int):=by rw [Int.tmod_eq_emod_of_nonneg (by omega)];omega
 have e2:((d:Int)).tdiv 10=0:=by rw [Int.tdiv_eq_ediv_of_nonneg (by omega)];omega
 go_enter Tryz.func112,Tryz.ntmps112
 go_wp2
 refine wp_loop_rounds 2 ?_
 rw [rounds_succ]
 go_wp2_with fail
 (with_reducible refine (f1.out _).mono ?_);rintro e w1 ⟨rfl,rfl⟩
 have hcv:=conv_one w1 (48+(d:Int)) Tryz.underlying22 Tryz.underlying5 Tryz.underlying9 (by omega) (by omega)
 rw [show (48+(d:Int)).toNat=48+d by omega] at hcv
 have hB:Below w1.heap.size w1 (w1.alloc (.cells #[.int .u8 (48+(d:Int))] 5)):=(Below.refl _ _).alloc (Nat.le_refl _) _
 go_wp2
 rw [rounds_succ]
 go_wp2
 go_ret
 refine ⟨?_,hB⟩
 simp
 apply ByteArray.ext
 simp
theorem drawNew {w:World} {v:Value} {l:List UInt8} (hl:CameB w v l) (hn:l.length≤2000000) :
  Calls Tryz.prog 58 #[v] w fun e w'=>∃ cb,e=.returned (.pointer (some ⟨cb,0,none⟩))∧Cur w v l cb w':=by
 obtain ⟨a0,cap,b,off,rfl,h2,h3⟩:=hl
 go_enter Tryz.func58,Tryz.ntmps58
 go_wp2
 go_loopw [3,4] (fun hh i wr=>∃ (p:Nat) (x:Int),p≤l.length∧hh=.int .i64 x∧i=.int .i64 p∧wr=w) (fun _ i _=>l.length - (intOf i).toNat)
 case atStart=>exact ⟨0,_,Nat.zero_le _,rfl,rfl,rfl⟩
 case round =>
  obtain ⟨p,x,hp,rfl,rfl,rfl⟩:=hrel
  by_cases hlt:p < l.length
  ·by_cases h4:p < 4000
   ·have d1:decide ((p:Int) < (l.length:Int))=true:=decide_eq_true (by omega)
    have d2:decide ((p:Int) < 4000)=true:=decide_eq_true (by omega)
    obtain ⟨rfl,hb⟩:=h2 (by omega)
    have cc:=h3 p hlt
    have hby:=l[p].toNat_lt
    generalize l[p].toNat=u at cc hby
    have q1:(0:Int)≤(p:Int):=by omega
    have q2:(p:Int) < (l.length:Int):=by omega
    clear h2 h3
    go_wp2
    go_roundw
    case rel=>exact ⟨p+1,_,by omega,rfl,by go_num,trivial⟩
    case measure=>simp [intOf];omega
   ·have d1:decide ((p:Int) < (l.length:Int))=true:=decide_eq_true (by omega)
    have d2:decide ((p:Int) < 4000)=false:=decide_eq_false (by omega)
    clear h2 h3
    go_wp2
    go_ret
    exact ⟨wr.heap.size,rfl,(Below.refl _ _).alloc (Nat.le_refl _) _,Nat.le_refl _,by simp,0,x,Nat.zero_le _,World.news_of_block (cs:=#[.slice a0 l.length cap,.int .i64 0,.int .i64 x]) (t:=129) (fr:=(0,0)) (heap_alloc_new wr _) 0 _ rfl,World.news_of_block (cs:=#[.slice a0 l.length cap,.int .i64 0,.int .i64 x]) (t:=129) (fr:=(0,0)) (heap_alloc_new wr _) 1 _ rfl,World.news_of_block (cs:=#[.slice a0 l.length cap,.int .i64 0,.int .i64 x]) (t:=129) (fr:=(0,0)) (heap_alloc_new wr _) 2 _ rfl,by simp,by simp⟩
  ·have d1:decide ((p:Int) < (l.length:Int))=false:=decide_eq_false (by omega)
   clear h2 h3
   go_wp2
   go_ret
   exact ⟨wr.heap.size,rfl,(Below.refl _ _).alloc (Nat.le_refl _) _,Nat.le_refl _,by simp,0,x,Nat.zero_le _,World.news_of_block (cs:=#[.slice a0 l.length cap,.int .i64 0,.int .i64 x]) (t:=129) (fr:=(0,0)) (heap_alloc_new wr _) 0 _ rfl,World.news_of_block (cs:=#[.slice a0 l.length cap,.int .i64 0,.int .i64 x]) (t:=129) (fr:=(0,0)) (heap_alloc_new wr _) 1 _ rfl,World.news_of_block (cs:=#[.slice a0 l.length cap,.int .i64 0,.int .i64 x]) (t:=129) (fr:=(0,0)) (heap_alloc_new wr _) 2 _ rfl,by simp,by simp⟩
theorem decimalPar (d:Nat) (w:World) (hd:d≤2) :
  Calls Tryz.prog 112 #[.int .i64 (d:Int)] w fun e w'=>e=.returned (.string ⟨#[UInt8.ofNat (48+d)]⟩)∧Below w.heap.size w w':=by
 rcases Nat.eq_zero_or_pos d with rfl | hp
 ·exact decimalZero w
 ·exact decimalSmall d w hp (by omega)
theorem Cur.below {w0 w w':World} {v:Value} {l:List UInt8} {cb:Nat} (h:Cur w0 v l cb w) (hb:Below w.heap.size w w'):Cur w0 v l cb w':=by
 obtain ⟨h1,h2,h3,i,x,h4,c0,c1,c2,z1,z2⟩:=h
 refine ⟨h1.trans (hb.mono h1.size),h2,Nat.lt_of_lt_of_le h3 hb.size,i,x,h4,(hb.cell (p:=⟨cb,0,none⟩) h3).trans c0,(hb.cell (p:=⟨cb,1,none⟩) h3).trans c1,(hb.cell (p:=⟨cb,2,none⟩) h3).trans c2,(hb.frozen (p:=⟨cb,1,none⟩) h3).trans z1,(hb.frozen (p:=⟨cb,2,none⟩) h3).trans z2⟩
theorem lvBytes2 (a:List UInt8) (c:UInt8):(⟨#[c]⟩:ByteArray) ++ ⟨a.toArray⟩=⟨(c :: a).toArray⟩:=by
 apply ByteArray.ext
 simp
theorem lvBytes3 (a b:List UInt8) (c:UInt8):(⟨#[c]⟩:ByteArray) ++ ⟨a.toArray⟩ ++ ⟨b.toArray⟩=⟨(c :: (a ++ b)).toArray⟩:=by
 apply ByteArray.ext
 simp
def lvMax:Nat→Nat
 | 0=>2
 | d+1=>1+2*lvMax d
theorem lvMax_ge (d:Nat):2≤lvMax d:=by
 induction d with
 | zero=>exact Nat.le_refl _
 | succ d ih=>rw [lvMax];omega
def LvPost (w0:World) (v:Value) (l:List UInt8) (cb d:Nat) (w:World) (e:Ending) (w':World):Prop :=
 (∃ t:List UInt8,LvP t∧t.length≤lvMax d∧e=.returned (.string ⟨t.toArray⟩))∧Cur w0 v l cb w'∧w.grownBy w' (some cb)
theorem drawLevel {w0:World} {v:Value} {l:List UInt8} {cb:Nat} (hl:CameB w0 v l) (hn:l.length≤2000000) (m:Nat) (hm0:1≤m) (hm:m≤3):∀ (d:Nat),d≤10→∀ (w:World),Cur w0 v l cb w →
  Calls Tryz.prog 120 #[.pointer (some ⟨cb,0,none⟩),.int .i64 (m:Int),.int .i64 (d:Int)] w (LvPost w0 v l cb d w):=by
 intro d
 have fO2:Hid (∀ W,Cur w0 v l cb W→Calls Tryz.prog 119 #[.pointer (some ⟨cb,0,none⟩),.int .i64 2] W fun e w'=>(∃ x:Bool,e=.returned (.bool x))∧Cur w0 v l cb w'∧W.grownBy w' (some cb)):=fun W hW=>drawOnce hl hW hn 2 (by decide) (by decide)
 have fO3:Hid (∀ W,Cur w0 v l cb W→Calls Tryz.prog 119 #[.pointer (some ⟨cb,0,none⟩),.int .i64 3] W fun e w'=>(∃ x:Bool,e=.returned (.bool x))∧Cur w0 v l cb w'∧W.grownBy w' (some cb)):=fun W hW=>drawOnce hl hW hn 3 (by decide) (by decide)
 have fB3:Hid (∀ W,Cur w0 v l cb W→Calls Tryz.prog 59 #[.pointer (some ⟨cb,0,none⟩),.int .i64 (m:Int)] W fun e w'=>(∃ x:Nat,x < m∧e=.returned (.int .i64 x))∧Cur w0 v l cb w'∧W.grownBy w' (some cb)):=fun W hW=>drawBelow hl hW hn m hm0 (by omega)
 have fB4:Hid (∀ W,Cur w0 v l cb W→Calls Tryz.prog 59 #[.pointer (some ⟨cb,0,none⟩),.int .i64 4] W fun e w'=>(∃ x:Nat,x < 4∧e=.returned (.int .i64 x))∧Cur w0 v l cb w'∧W.grownBy w' (some cb)):=fun W hW=>drawBelow hl hW hn 4 (by decide) (by decide)
 have fD:=Ld decimalPar
 have dm0:decide ((0:Int) < (m:Int))=true:=decide_eq_true (by omega)
 have dm0n:decide (0 < m)=true:=decide_eq_true (by omega)
 clear hl hn
 induction d with
 | zero =>
  intro _ w hc
  have hC:=Ld hc
  go_enter Tryz.func120,Tryz.ntmps120
  go_wp2_with fail
  (with_reducible refine (fO2.out _ hC.out).mono ?_);rintro e w1 ⟨⟨x,rfl⟩,hc1,hg1⟩
  cases x
  ·go_wp2
   go_ret
   exact ⟨⟨[122],LvP.z,by simp [lvMax],rfl⟩,hc1,hg1⟩
  ·go_wp2_with fail
   (with_reducible refine (fB3.out _ hc1).mono ?_);rintro e w4 ⟨⟨x,hx,rfl⟩,hc4,hg4⟩
   go_wp2_with fail
   (with_reducible refine (fD.out x _ (by omega)).mono ?_);rintro e w5 ⟨rfl,hb5⟩
   have hc5:=hc4.below hb5
   have hg5:=grownBy_of_below hb5 (some cb)
   have hs:(UInt8.ofNat (48+x)).toNat=48+x:=by simp;omega
   have HL:=Ld (LvP.par (d:=UInt8.ofNat (48+x)) (by omega) (by omega))
   have HE:=Ld (lvBytes2 [UInt8.ofNat (48+x)] 117)
   clear hs
   go_wp2
   go_ret
   refine ⟨⟨[117,UInt8.ofNat (48+x)],HL.out,by simp [lvMax],?_⟩,hc5,hg1.trans (hg4.trans hg5)⟩
   rw [← HE.out]
   simp
 | succ d ih =>
  intro hd w hc
  have hmx:lvMax (d+1)=1+2*lvMax d:=rfl
  have hge:=lvMax_ge d
  have hcap:lvMax d≤50000:=by
   have this:∀ k,k≤10→lvMax k+1≤3*2 ^ k:=by
    intro k
    induction k with
    | zero=>intro _;decide
    | succ k ih =>
     intro hk
     have h1:=ih (by omega)
     rw [lvMax,Nat.pow_succ]
     omega
   have h1:=this d (by omega)
   have h2:2 ^ d≤2 ^ 10:=Nat.pow_le_pow_right (by decide) (by omega)
   omega
  have ih1:=Ld (ih (by omega))
  clear ih
  generalize hnn:d+1=n at hmx ⊢
  have ih2:Hid (∀ W,Cur w0 v l cb W→Calls Tryz.prog 120 #[.pointer (some ⟨cb,0,none⟩),.int .i64 (m:Int),.int .i64 ((n:Int) - 1)] W (LvPost w0 v l cb d W)):=fun W hW=>by
   rw [show (n:Int) - 1=(d:Int) by omega]
   exact ih1.out W hW
  clear ih1
  have d0:decide ((n:Int)≤0)=false:=decide_eq_false (by omega)
  have hC:=Ld hc
  clear hc
  go_enter Tryz.func120,Tryz.ntmps120
  go_wp2_with fail
  (with_reducible refine (fO3.out _ hC.out).mono ?_);rintro e w1 ⟨⟨y,rfl⟩,hc1,hg1⟩
  cases y
  ·go_wp2_with fail
   (with_reducible refine (fB4.out _ hc1).mono ?_);rintro e w2 ⟨⟨x,hx,rfl⟩,hc2,hg2⟩
   rcases Nat.lt_or_ge x 1 with hx0 | hx0
   ·obtain rfl:x=0:=by omega
    go_wp2_with fail
    (with_reducible refine (ih2.out _ hc2).mono ?_);rintro e w3 ⟨⟨a,ha,hla,rfl⟩,hc3,hg3⟩
    have za:((⟨#[109]⟩:ByteArray) ++ ⟨a.toArray⟩).size≤100000:=by rw [ByteArray.size_append];simp [ByteArray.size];omega
    go_wp2_with fail
    (with_reducible refine (ih2.out _ hc3).mono ?_);rintro e w4 ⟨⟨b,hb,hlb,rfl⟩,hc4,hg4⟩
    have HE:=Ld (lvBytes3 a b 109)
    have zb:b.length≤50000:=by omega
    go_wp2
    go_ret
    refine ⟨⟨109 :: (a ++ b),LvP.two (.inl rfl) ha hb,by rw [hmx];simp;omega,?_⟩,hc4,hg1.trans (hg2.trans (hg3.trans hg4))⟩
    rw [← HE.out]
    rfl
   ·rcases Nat.lt_or_ge x 2 with hx1 | hx1
    ·obtain rfl:x=1:=by omega
     go_wp2_with fail
     (with_reducible refine (ih2.out _ hc2).mono ?_);rintro e w3 ⟨⟨a,ha,hla,rfl⟩,hc3,hg3⟩
     have za:((⟨#[105]⟩:ByteArray) ++ ⟨a.toArray⟩).size≤100000:=by rw [ByteArray.size_append];simp [ByteArray.size];omega
     go_wp2_with fail
     (with_reducible refine (ih2.out _ hc3).mono ?_);rintro e w4 ⟨⟨b,hb,hlb,rfl⟩,hc4,hg4⟩
     have HE:=Ld (lvBytes3 a b 105)
     have zb:b.length≤50000:=by omega
     go_wp2
     go_ret
     refine ⟨⟨105 :: (a ++ b),LvP.two (.inr rfl) ha hb,by rw [hmx];simp;omega,?_⟩,hc4,hg1.trans (hg2.trans (hg3.trans hg4))⟩
     rw [← HE.out]
     rfl
    ·have b0:((x:Int) == 0)=false:=beq_eq_false_iff_ne.2 (by omega)
     have b1:((x:Int) == 1)=false:=beq_eq_false_iff_ne.2 (by omega)
     go_wp2_with fail
     (with_reducible refine (ih2.out _ hc2).mono ?_);rintro e w3 ⟨⟨a,ha,hla,rfl⟩,hc3,hg3⟩
     have HE:=Ld (lvBytes2 a 43)
     have za:a.length≤50000:=by omega
     go_wp2
     go_ret
     refine ⟨⟨43 :: a,LvP.up ha,by rw [hmx];simp;omega,?_⟩,hc3,hg1.trans (hg2.trans hg3)⟩
     rw [← HE.out]
     rfl
  ·go_wp2_with fail
   (with_reducible refine (fO2.out _ hc1).mono ?_);rintro e w2 ⟨⟨x,rfl⟩,hc2,hg2⟩
   cases x
   ·go_wp2
    go_ret
    exact ⟨⟨[122],LvP.z,by rw [hmx];simp<;>omega,rfl⟩,hc2,hg1.trans hg2⟩
   ·go_wp2_with fail
    (with_reducible refine (fB3.out _ hc2).mono ?_);rintro e w4 ⟨⟨x,hx,rfl⟩,hc4,hg4⟩
    go_wp2_with fail
    (with_reducible refine (fD.out x _ (by omega)).mono ?_);rintro e w5 ⟨rfl,hb5⟩
    have hc5:=hc4.below hb5
    have hg5:=grownBy_of_below hb5 (some cb)
    have hs:(UInt8.ofNat (48+x)).toNat=48+x:=by simp;omega
    have HL:=Ld (LvP.par (d:=UInt8.ofNat (48+x)) (by omega) (by omega))
    have HE:=Ld (lvBytes2 [UInt8.ofNat (48+x)] 117)
    clear hs
    go_wp2
    go_ret
    refine ⟨⟨[117,UInt8.ofNat (48+x)],HL.out,by rw [hmx];simp;omega,?_⟩,hc5,hg1.trans (hg2.trans (hg4.trans hg5))⟩
    rw [← HE.out]
    simp
theorem own_weakenS {w:World} {b b' n z:Nat} {e:TypeId} {v:Value} {xs:List Value} (h:w.ownsRow b e z v n xs) (hb:b'≤b):w.ownsRow b' e z v n xs:=by
 obtain ⟨h1,h2 | ⟨g,cap,cur,e,h3,h4⟩⟩:=h
 ·exact ⟨h1,.inl h2⟩
 ·exact ⟨h1,.inr ⟨g,cap,cur,e,Nat.le_trans hb h3,h4⟩⟩
theorem Cur.grownS {w0 w w':World} {v:Value} {l:List UInt8} {cb:Nat} {row:Option Nat} (h:Cur w0 v l cb w) (hg:w.grownBy w' row) (h1:row≠some cb) (h2:∀ k,row=some k→w0.heap.size≤k):Cur w0 v l cb w':=by
 obtain ⟨b1,b2,b3,i,x,b4,c0,c1,c2,z1,z2⟩:=h
 have hb:w'.heap[cb]?=w.heap[cb]?:=hg.block cb b3 (fun e=>h1 e.symm)
 exact ⟨b1.grown hg b1.size h2,b2,Nat.lt_of_lt_of_le b3 hg.size,i,x,b4,(World.cell?_of_block (a:=⟨cb,0,none⟩) hb).trans c0,(World.cell?_of_block (a:=⟨cb,1,none⟩) hb).trans c1,(World.cell?_of_block (a:=⟨cb,2,none⟩) hb).trans c2,(World.frozen?_of_block (a:=⟨cb,1,none⟩) hb).trans z1,(World.frozen?_of_block (a:=⟨cb,2,none⟩) hb).trans z2⟩
theorem drawPick {w0 w:World} {v:Value} {l:List UInt8} {cb:Nat} (hl:CameB w0 v l) (hc:Cur w0 v l cb w) (hn:l.length≤2000000) {b n:Nat} {u:Value} {ls:List (List UInt8)}
  (hr:w.ownsRow b 9 1 u n (ls.map sv)) (hb:cb < b) (h1:1≤n) (h2:n≤256) :
  Calls Tryz.prog 170 #[.pointer (some ⟨cb,0,none⟩),u] w fun e w'=>(∃ x,x∈ls∧e=.returned (.string ⟨x.toArray⟩))∧Cur w0 v l cb w'∧w.grownBy w' (some cb):=by
 have hln:ls.length=n:=by simpa using hr.1
 have f1:=Ld (drawBelow hl hc hn n h1 h2)
 obtain ⟨g,cap,rfl,hgb,hgl⟩:=hr.form (by omega)
 have hgc:g≠cb:=by have:=(hr.lt g rfl).1;omega
 clear hl hc
 go_enter Tryz.func170,Tryz.ntmps170
 go_wp2_with fail
 (with_reducible refine f1.out.mono ?_);rintro e w1 ⟨⟨x,hx,rfl⟩,hc1,hg1⟩
 have hr1:=hr.kept hg1 (.inr (by simp [Value.ownBlock];exact hgc))
 have ex:(ls.map sv)[x]?=some (sv ls[x]):=by simp [show x < ls.length by omega]
 have cc:=(hr1.cellAt x (by omega)).trans ex
 unfold sv at cc
 have hm:=List.getElem_mem (show x < ls.length by omega)
 have q1:(0:Int)≤(x:Int):=by omega
 have q2:(x:Int) < (n:Int):=by omega
 generalize ls[x]=y at cc hm
 have H:=Ld (And.intro hc1 hg1)
 clear ex hr hr1 hc1 hg1 f1
 go_wp2
 go_ret
 exact ⟨⟨y,hm,rfl⟩,H.out⟩
def theNames:List (List UInt8):=[[110,97,116],[110,97,116,46,122,101,114,111],[110,97,116,46,115,117,99,99],[105,100],[101,109],[97,46,98],[97,46,98,46,99],[98,111,111,108],[101,113],[97,100,100],[120,49]]
theorem theNames_ok:∀ x∈theNames,nameOk x=true∧x.length≤8:=by decide
theorem drawNameD {w0:World} {v:Value} {l:List UInt8} {cb:Nat} (hl:CameB w0 v l) (hn:l.length≤2000000) (w:World) (hc:Cur w0 v l cb w) :
  Calls Tryz.prog 121 #[.pointer (some ⟨cb,0,none⟩)] w fun e w'=>(∃ x,x∈theNames∧nameOk x=true∧x.length≤8∧e=.returned (.string ⟨x.toArray⟩))∧Cur w0 v l cb w'∧w.grownBy w' (some cb):=by
 have hcw:cb < w.heap.size:=hc.2.2.1
 have r0:(w.alloc (.cells #[.string ⟨#[110,97,116]⟩,.string ⟨#[110,97,116,46,122,101,114,111]⟩,.string ⟨#[110,97,116,46,115,117,99,99]⟩,.string ⟨#[105,100]⟩,.string ⟨#[101,109]⟩,.string ⟨#[97,46,98]⟩,.string ⟨#[97,46,98,46,99]⟩,.string ⟨#[98,111,111,108]⟩,.string ⟨#[101,113]⟩,.string ⟨#[97,100,100]⟩,.string ⟨#[120,49]⟩] 9)).ownsRow w.heap.size 9 1 (.slice (some ⟨w.heap.size,0,none⟩) 11 11) 11 (theNames.map sv):=World.ownsRow_lit (base:=w.heap.size) (e:=9) (size:=1) w #[.string ⟨#[110,97,116]⟩,.string ⟨#[110,97,116,46,122,101,114,111]⟩,.string ⟨#[110,97,116,46,115,117,99,99]⟩,.string ⟨#[105,100]⟩,.string ⟨#[101,109]⟩,.string ⟨#[97,46,98]⟩,.string ⟨#[97,46,98,46,99]⟩,.string ⟨#[98,111,111,108]⟩,.string ⟨#[101,113]⟩,.string ⟨#[97,100,100]⟩,.string ⟨#[120,49]⟩] 11 (Nat.le_refl _) (by decide) (by simp)
 have b0:=(Below.refl w.heap.size w).alloc (Nat.le_refl _) (.cells #[.string ⟨#[110,97,116]⟩,.string ⟨#[110,97,116,46,122,101,114,111]⟩,.string ⟨#[110,97,116,46,115,117,99,99]⟩,.string ⟨#[105,100]⟩,.string ⟨#[101,109]⟩,.string ⟨#[97,46,98]⟩,.string ⟨#[97,46,98,46,99]⟩,.string ⟨#[98,111,111,108]⟩,.string ⟨#[101,113]⟩,.string ⟨#[97,100,100]⟩,.string ⟨#[120,49]⟩] 9)
 have f1:=Ld (drawPick hl (hc.below b0) hn r0 hcw (by decide) (by decide))
 have G0:=Ld (grownBy_of_below b0 (some cb))
 clear r0 b0 hc hl
 go_enter Tryz.func121,Tryz.ntmps121
 go_wp2_with fail
 (with_reducible refine f1.out.mono ?_);rintro e w1 ⟨⟨x,hx,rfl⟩,hc1,hg1⟩
 obtain ⟨h1,h2⟩:=theNames_ok x hx
 have HX:=Ld hx
 have H:=Ld (And.intro hc1 (G0.out.trans hg1))
 clear hc1 hg1 hx f1 G0
 go_wp2
 go_ret
 exact ⟨⟨x,HX.out,h1,h2,rfl⟩,H.out⟩
theorem sort_text (t:List UInt8):(⟨#[115]⟩:ByteArray) ++ ⟨t.toArray⟩ ++ ⟨#[46]⟩=⟨(Tm.sort t).bytes.toArray⟩:=by
 apply ByteArray.ext
 simp [Tm.bytes]
theorem let_text (a b c:List UInt8):(⟨#[116]⟩:ByteArray) ++ ⟨a.toArray⟩ ++ ⟨b.toArray⟩ ++ ⟨c.toArray⟩=⟨(116 :: (a ++ (b ++ c))).toArray⟩:=by
 apply ByteArray.ext
 simp
theorem lvsB_le:∀ {ls:List (List UInt8)},(∀ y∈ls,levelOk y=true∧y.length≤5)→(lvsB ls).length≤ls.length*6
 | [],_=>by simp [lvsB]
 | x :: r,h=>by
  have h1:=(h x List.mem_cons_self).2
  have h2:=lvsB_le (ls:=r) fun y hy=>h y (List.mem_cons_of_mem _ hy)
  simp only [lvsB,List.length_append,List.length_cons]
  omega
theorem infoStrT:(Tryz.prog.info? 9).map (fun i=>(i.zero,i.size,i.bytes))=some (some (.string ⟨#[]⟩),1,16):=by kernel_rfl
theorem keep_cur {w w':World} {b cb n:Nat} {v:Value} {xs:List Value} (h:w.ownsRow b 9 1 v n xs) (hg:w.grownBy w' (some cb)) (hb:cb < b):w'.ownsRow b 9 1 v n xs :=
 h.kept hg (by
  rcases hv:v.ownBlock with _ | g
  ·exact .inl rfl
  ·refine .inr fun e=>?_
   have h1:=(h.lt g hv).1
   have h2:g=cb:=by simpa using e
   omega)
def tmMax:Nat→Nat
 | 0=>30
 | d+1=>1+3*tmMax d
theorem tmMax_ge (d:Nat):30≤tmMax d:=by
 induction d with
 | zero=>exact Nat.le_refl _
 | succ d ih=>rw [tmMax];omega
theorem tmMax_le {d:Nat} (h:d≤4):tmMax d≤3000:=by
 rcases (by omega:d=0∨d=1∨d=2∨d=3∨d=4) with rfl | rfl | rfl | rfl | rfl<;>decide
def Tm.Drawn:Tm→Prop
 | .var n=>n≤30
 | .sort _=>True
 | .const n _=>n∈theNames
 | .app f x=>f.Drawn∧x.Drawn
 | .lam d b=>d.Drawn∧b.Drawn
 | .pi d b=>d.Drawn∧b.Drawn
 | .lett t v b=>t.Drawn∧v.Drawn∧b.Drawn
theorem Tm.Drawn.lim:∀ {t:Tm},t.Drawn→t.Lim 30
 | .var _,h=>h
 | .sort _,_=>trivial
 | .const _ _,_=>trivial
 | .app _ _,h=>⟨h.1.lim,h.2.lim⟩
 | .lam _ _,h=>⟨h.1.lim,h.2.lim⟩
 | .pi _ _,h=>⟨h.1.lim,h.2.lim⟩
 | .lett _ _ _,h=>⟨h.1.lim,h.2.1.lim,h.2.2.lim⟩
def TmPostD (w0:World) (v:Value) (l:List UInt8) (cb M:Nat) (e:Ending) (w':World):Prop :=
 (∃ T:Tm,T.Ok∧T.Drawn∧T.bytes.length≤M∧e=.returned (.string ⟨T.bytes.toArray⟩))∧Cur w0 v l cb w'
def CurG (wk w0:World) (v:Value) (l:List UInt8) (cb:Nat) (w:World):Prop:=Cur w0 v l cb w∧wk.grownBy w (some cb)
theorem grownBy_trans {w w' w'':World} {row:Option Nat} (h:w.grownBy w' row) (h':w'.grownBy w'' row):w.grownBy w'' row := ⟨h'.os.trans h.os,h'.tape.trans h.tape,h'.output.trans h.output,Nat.le_trans h.size h'.size,fun k hk hr=>(h'.block k (Nat.lt_of_lt_of_le hk h.size) hr).trans (h.block k hk hr)⟩
theorem CurG.below {wk w0 w w':World} {v:Value} {l:List UInt8} {cb:Nat} (h:CurG wk w0 v l cb w) (hb:Below w.heap.size w w'):CurG wk w0 v l cb w' := ⟨h.1.below hb,grownBy_trans h.2 (grownBy_of_below hb _)⟩
theorem CurG.grownS {wk w0 w w':World} {v:Value} {l:List UInt8} {cb:Nat} {row:Option Nat} (h:CurG wk w0 v l cb w) (hg:w.grownBy w' row) (h1:row≠some cb) (h2:∀ k,row=some k→w0.heap.size≤k) (h3:∀ k,row=some k→wk.heap.size≤k):CurG wk w0 v l cb w' := ⟨h.1.grownS hg h1 h2,⟨hg.os.trans h.2.os,hg.tape.trans h.2.tape,hg.output.trans h.2.output,Nat.le_trans h.2.size hg.size,fun k hk hr=>(hg.block k (Nat.lt_of_lt_of_le hk h.2.size) (fun e=>by have:=h3 k e.symm;omega)).trans (h.2.block k hk hr)⟩⟩
theorem CurG.adapt {wk w0 W:World} {v:Value} {l:List UInt8} {cb:Nat} (hW:CurG wk w0 v l cb W) {f:FuncId} {args:Array Value} {A:Ending→Prop}
  (h:Calls Tryz.prog f args W fun e w'=>A e∧Cur w0 v l cb w'∧W.grownBy w' (some cb)):Calls Tryz.prog f args W fun e w'=>A e∧CurG wk w0 v l cb w'∧W.grownBy w' (some cb) :=
 h.mono fun _ _ ⟨a,c,g⟩=>⟨a,⟨c,grownBy_trans hW.2 g⟩,g⟩
def TmPostG (wk w0:World) (v:Value) (l:List UInt8) (cb M:Nat) (e:Ending) (w':World):Prop :=
 (∃ T:Tm,T.Ok∧T.Drawn∧T.bytes.length≤M∧e=.returned (.string ⟨T.bytes.toArray⟩))∧CurG wk w0 v l cb w'
def LvPostG (wk w0:World) (v:Value) (l:List UInt8) (cb d:Nat) (w:World) (e:Ending) (w':World):Prop :=
 (∃ t:List UInt8,LvP t∧t.length≤lvMax d∧e=.returned (.string ⟨t.toArray⟩))∧CurG wk w0 v l cb w'∧w.grownBy w' (some cb)
theorem drawTermG {wk w0:World} {v:Value} {l:List UInt8} {cb:Nat} (hl:CameB w0 v l) (hn:l.length≤2000000):∀ (d bn:Nat),d≤4→bn+d≤20→∀ (w:World),CurG wk w0 v l cb w →
  Calls Tryz.prog 57 #[.pointer (some ⟨cb,0,none⟩),.int .i64 (bn:Int),.int .i64 (d:Int)] w (TmPostG wk w0 v l cb (tmMax d)):=by
 intro d
 obtain ⟨i0,hi,hz0,hz1,hz2⟩:=info_parts infoStrT
 have fO4:Hid (∀ W,CurG wk w0 v l cb W→Calls Tryz.prog 119 #[.pointer (some ⟨cb,0,none⟩),.int .i64 4] W fun e w'=>(∃ x:Bool,e=.returned (.bool x))∧CurG wk w0 v l cb w'∧W.grownBy w' (some cb)):=fun W hW=>hW.adapt (drawOnce hl hW.1 hn 4 (by decide) (by decide))
 have fB3:Hid (∀ W,CurG wk w0 v l cb W→Calls Tryz.prog 59 #[.pointer (some ⟨cb,0,none⟩),.int .i64 3] W fun e w'=>(∃ x:Nat,x < 3∧e=.returned (.int .i64 x))∧CurG wk w0 v l cb w'∧W.grownBy w' (some cb)):=fun W hW=>hW.adapt (drawBelow hl hW.1 hn 3 (by decide) (by decide))
 have fB4:Hid (∀ W,CurG wk w0 v l cb W→Calls Tryz.prog 59 #[.pointer (some ⟨cb,0,none⟩),.int .i64 4] W fun e w'=>(∃ x:Nat,x < 4∧e=.returned (.int .i64 x))∧CurG wk w0 v l cb w'∧W.grownBy w' (some cb)):=fun W hW=>hW.adapt (drawBelow hl hW.1 hn 4 (by decide) (by decide))
 have fB7:Hid (∀ W,CurG wk w0 v l cb W→Calls Tryz.prog 59 #[.pointer (some ⟨cb,0,none⟩),.int .i64 7] W fun e w'=>(∃ x:Nat,x < 7∧e=.returned (.int .i64 x))∧CurG wk w0 v l cb w'∧W.grownBy w' (some cb)):=fun W hW=>hW.adapt (drawBelow hl hW.1 hn 7 (by decide) (by decide))
 have gBv:Hid (∀ bn:Nat,bn≤20→∀ W,CurG wk w0 v l cb W→Calls Tryz.prog 59 #[.pointer (some ⟨cb,0,none⟩),.int .i64 ((bn:Int)+2)] W fun e w'=>(∃ x:Nat,x < bn+2∧e=.returned (.int .i64 x))∧CurG wk w0 v l cb w'∧W.grownBy w' (some cb)):=fun bn hbn W hW=>by
  have:=hW.adapt (drawBelow hl hW.1 hn (bn+2) (by omega) (by omega))
  rw [show ((bn+2:Nat):Int)=(bn:Int)+2 by omega] at this
  exact this
 have fL2:Hid (∀ W,CurG wk w0 v l cb W→Calls Tryz.prog 120 #[.pointer (some ⟨cb,0,none⟩),.int .i64 2,.int .i64 2] W (LvPostG wk w0 v l cb 2 W)):=fun W hW=>hW.adapt (drawLevel hl hn 2 (by decide) (by decide) 2 (by decide) W hW.1)
 have fL1:Hid (∀ W,CurG wk w0 v l cb W→Calls Tryz.prog 120 #[.pointer (some ⟨cb,0,none⟩),.int .i64 2,.int .i64 1] W (LvPostG wk w0 v l cb 1 W)):=fun W hW=>hW.adapt (drawLevel hl hn 2 (by decide) (by decide) 1 (by decide) W hW.1)
 have fN:=Ld fun W (hW:CurG wk w0 v l cb W)=>hW.adapt (drawNameD hl hn W hW.1)
 have fV:=Ld specVar
 clear hl hn
 induction d with
 | zero =>
  intro bn _ hbn w hc
  have fBv:=Ld (gBv.out bn (by omega))
  have hC:=Ld hc
  have hM:tmMax 0=30:=rfl
  generalize tmMax 0=M at hM
  clear hc gBv
  go_enter Tryz.func57,Tryz.ntmps57
  go_wp2_with fail
  (with_reducible refine (fB4.out _ hC.out).mono ?_);rintro e wa ⟨⟨x,hx,rfl⟩,hca,_⟩
  rcases Nat.lt_or_ge x 1 with hx0 | hx0
  ·obtain rfl:x=0:=by omega
   go_wp2_with fail
   (with_reducible refine (fL2.out _ hca).mono ?_);rintro e wb ⟨⟨t,ht,hlt,rfl⟩,hcb,_⟩
   have HE:=Ld (sort_text t)
   have zt:t.length≤11:=hlt
   have HT:=Ld (ht.run.ok (by omega))
   have HCB:=Ld hcb
   clear ht hlt hcb hca
   go_wp2
   go_ret
   refine ⟨⟨.sort t,HT.out,trivial,by simp only [Tm.bytes,List.length_cons,List.length_append,List.length_nil];omega,?_⟩,HCB.out⟩
   rw [← HE.out]
   rfl
  have b0:((x:Int) == 0)=false:=beq_eq_false_iff_ne.2 (by omega)
  rcases Nat.lt_or_ge x 2 with hx1 | hx1
  ·obtain rfl:x=1:=by omega
   have hcw:cb < wa.heap.size:=hca.1.2.2.1
   have hwk:wk.heap.size≤wa.heap.size:=hca.2.size
   have r0:=World.ownsRow_lit (base:=wa.heap.size) (e:=9) (size:=1) wa #[] 0 (Nat.le_refl _) (by decide) (by simp)
   have bb0:=(Below.refl wa.heap.size wa).alloc (Nat.le_refl _) (.cells #[] 9)
   have hc3:=hca.below bb0
   have hz0:=bb0.size
   clear bb0
   go_wp2
   go_loopw [7,8] (fun vo i wr=>∃ (k:Nat) (ls:List (List UInt8)),k≤2∧ls.length=k∧i=.int .i64 k∧wr.ownsRow wa.heap.size 9 1 vo ls.length (ls.map sv)∧CurG wk w0 v l cb wr∧wa.heap.size≤wr.heap.size∧Hid (∀ y∈ls,levelOk y=true∧y.length≤5)) (fun _ i _=>2 - (intOf i).toNat)
   case atStart=>exact ⟨0,[],by omega,rfl,rfl,r0,hc3,hz0,fun x hx=>absurd hx (by simp)⟩
   case round =>
    obtain ⟨k,ls,hk,hp,rfl,hown,hcr,hzz,HP⟩:=hrel
    clear r0 hc3 hz0 hca
    go_wp2_with fail
    (with_reducible refine (fB3.out _ hcr).mono ?_);rintro e w3 ⟨⟨y,hy,rfl⟩,hc3,hg3⟩
    have hown3:=keep_cur hown hg3 hcw
    have z3:wa.heap.size≤w3.heap.size:=Nat.le_trans hzz hg3.size
    clear hown hg3 hcr
    by_cases hky:k < y
    ·have d1:decide ((k:Int) < (y:Int))=true:=decide_eq_true (by omega)
     have d1n:decide (k < y)=true:=decide_eq_true hky
     go_wp2_with fail
     (with_reducible refine (fL1.out _ hc3).mono ?_);rintro e w4 ⟨⟨t,ht,hlt,rfl⟩,hc4,hg4⟩
     have zt:t.length≤5:=hlt
     have HT:=Ld (ht.run.ok (by omega))
     have hown4:=keep_cur hown3 hg4 hcw
     have z4:wa.heap.size≤w4.heap.size:=Nat.le_trans z3 hg4.size
     clear ht hlt hown3 hc3 hg4
     go_wp2_with (at_builtin;refine wpList_append_own _ rfl _ _ 25 rfl wa.heap.size 9 i0 _ 1 16 Tryz.underlying25 hi hz0 hz1 hz2 rfl (by decide) _ _ _ rfl (hown4.alloc _) ⟨_,0,none⟩ 1 1 [.string ⟨t.toArray⟩] rfl rfl (oneNew _ _ _) (by simp [Value.oneCell']) (by simp only [maxLen];omega) (by omega) (by simp;omega) ?_;intro v1 w5 hown5 hg5 _)
     have hlo:∀ g,u7.ownBlock=some g→wa.heap.size≤g:=fun g hg=>(hown4.lt g hg).1
     have hc5:=(hc4.below ((Below.refl w4.heap.size w4).alloc (Nat.le_refl _) (.cells #[.string ⟨t.toArray⟩] 9))).grownS hg5 (fun e=>by have:=hlo cb e;omega) (fun g hg=>by have:=hlo g hg;have:=hc4.1.2.1;omega) (fun g hg=>by have:=hlo g hg;omega)
     have HP2:Hid (∀ y∈ls ++ [t],levelOk y=true∧y.length≤5):=fun y hy=>by
      rcases List.mem_append.1 hy with h | h
      ·exact HP.out y h
      ·simp only [List.mem_cons,List.not_mem_nil,or_false] at h
       subst h
       exact ⟨HT.out,zt⟩
     have z5:wa.heap.size≤w5.heap.size:=by have:=hg5.size;simp at this;omega
     clear hown4 hc4 hg5 HP hlo
     go_wp2
     go_roundw
     case rel=>exact ⟨k+1,ls ++ [t],by omega,by simp [hp],by go_num,by simpa [sv] using hown5,hc5,z5,HP2.out⟩
     case measure=>simp [intOf];omega
    ·have d1:decide ((k:Int) < (y:Int))=false:=decide_eq_false (by omega)
     have d1n:decide (k < y)=false:=decide_eq_false hky
     go_wp2_with fail
     (with_reducible refine (fN.out _ hc3).mono ?_);rintro e w4 ⟨⟨nm,hnt,hnm,hnl,rfl⟩,hc4,hg4⟩
     have hown4:=keep_cur hown3 hg4 hcw
     have hzl:=lvsB_le HP.out
     have zl:(lvsB ls).length≤12:=by
      have:ls.length*6≤12:=by omega
      omega
     have znm:(⟨nm.toArray⟩:ByteArray).size≤10000000:=by show nm.length≤_;omega
     have fC:=Ld (specConst ⟨nm.toArray⟩ hown4 (by omega) znm (by omega))
     have HT:Hid ((Tm.const nm ls).Ok):=⟨hnm,by omega,fun y hy=>(HP.out y hy).1⟩
     have HC4:=Ld hc4
     have HNT:=Ld hnt
     have HB:Hid ((Tm.const nm ls).bytes.length≤23):=by
      rw [Hid]
      simp only [Tm.bytes,List.length_cons,List.length_append,List.length_nil]
      omega
     clear hown3 hown4 hc3 hc4 hg4 HP hnm hnt hzl
     go_wp2_with fail
     (with_reducible refine fC.out.mono ?_);rintro e w5 ⟨rfl,rfl⟩
     go_wp2
     go_ret
     exact ⟨⟨.const nm ls,HT.out,HNT.out,by have:=HB.out;omega,rfl⟩,HC4.out⟩
  have b1:((x:Int) == 1)=false:=beq_eq_false_iff_ne.2 (by omega)
  go_wp2_with fail
  (with_reducible refine (fBv.out _ hca).mono ?_);rintro e wb ⟨⟨y,hy,rfl⟩,hcb,_⟩
  go_wp2_with fail
  (with_reducible refine (fV.out y _ (by omega)).mono ?_);rintro e wc ⟨rfl,hbc⟩
  have HCB:=Ld (hcb.below hbc)
  have HB:Hid ((Tm.var y).bytes.length≤12):=by
   have hd:(Lib.decDigits y).length≤10:=digits_len (by omega)
   rw [Hid]
   simp only [Tm.bytes,List.length_cons,List.length_append,List.length_nil]
   omega
  clear hcb hbc hca
  go_wp2
  go_ret
  exact ⟨⟨.var y,show y≤999 by omega,show y≤30 by omega,by have:=HB.out;omega,rfl⟩,HCB.out⟩
 | succ d ih =>
  intro bn hd hbn w hc
  have fBv:=Ld (gBv.out bn (by omega))
  have hmx:tmMax (d+1)=1+3*tmMax d:=rfl
  have hge:=tmMax_ge d
  have hcap:=tmMax_le (show d≤4 by omega)
  have ih1:=Ld ih
  clear ih gBv
  generalize hnn:d+1=n at hmx ⊢
  generalize tmMax n=M at hmx ⊢
  have ih2:Hid (∀ W,CurG wk w0 v l cb W→Calls Tryz.prog 57 #[.pointer (some ⟨cb,0,none⟩),.int .i64 (bn:Int),.int .i64 ((n:Int) - 1)] W (TmPostG wk w0 v l cb (tmMax d))):=fun W hW=>by
   rw [show (n:Int) - 1=(d:Int) by omega]
   exact ih1.out bn (by omega) (by omega) W hW
  have ih3:Hid (∀ W,CurG wk w0 v l cb W→Calls Tryz.prog 57 #[.pointer (some ⟨cb,0,none⟩),.int .i64 ((bn:Int)+1),.int .i64 ((n:Int) - 1)] W (TmPostG wk w0 v l cb (tmMax d))):=fun W hW=>by
   rw [show (n:Int) - 1=(d:Int) by omega,show (bn:Int)+1=((bn+1:Nat):Int) by omega]
   exact ih1.out (bn+1) (by omega) (by omega) W hW
  generalize tmMax d=m at hmx hge hcap ih2 ih3
  clear ih1
  have d0:decide ((n:Int)≤0)=false:=decide_eq_false (by omega)
  have hC:=Ld hc
  clear hc
  go_enter Tryz.func57,Tryz.ntmps57
  go_wp2_with fail
  (with_reducible refine (fO4.out _ hC.out).mono ?_);rintro e w1 ⟨⟨y,rfl⟩,hc1,_⟩
  cases y
  rotate_left
  ·clear ih2 ih3 fO4
   go_wp2_with fail
   (with_reducible refine (fB4.out _ hc1).mono ?_);rintro e wa ⟨⟨x,hx,rfl⟩,hca,_⟩
   rcases Nat.lt_or_ge x 1 with hx0 | hx0
   ·obtain rfl:x=0:=by omega
    go_wp2_with fail
    (with_reducible refine (fL2.out _ hca).mono ?_);rintro e wb ⟨⟨t,ht,hlt,rfl⟩,hcb,_⟩
    have HE:=Ld (sort_text t)
    have zt:t.length≤11:=hlt
    have HT:=Ld (ht.run.ok (by omega))
    have HCB:=Ld hcb
    clear ht hlt hcb hca
    go_wp2
    go_ret
    refine ⟨⟨.sort t,HT.out,trivial,by simp only [Tm.bytes,List.length_cons,List.length_append,List.length_nil];omega,?_⟩,HCB.out⟩
    rw [← HE.out]
    rfl
   have b0:((x:Int) == 0)=false:=beq_eq_false_iff_ne.2 (by omega)
   rcases Nat.lt_or_ge x 2 with hx1 | hx1
   ·obtain rfl:x=1:=by omega
    have hcw:cb < wa.heap.size:=hca.1.2.2.1
    have hwk:wk.heap.size≤wa.heap.size:=hca.2.size
    have r0:=World.ownsRow_lit (base:=wa.heap.size) (e:=9) (size:=1) wa #[] 0 (Nat.le_refl _) (by decide) (by simp)
    have bb0:=(Below.refl wa.heap.size wa).alloc (Nat.le_refl _) (.cells #[] 9)
    have hc3:=hca.below bb0
    have hz0:=bb0.size
    clear bb0
    go_wp2
    go_loopw [7,8] (fun vo i wr=>∃ (k:Nat) (ls:List (List UInt8)),k≤2∧ls.length=k∧i=.int .i64 k∧wr.ownsRow wa.heap.size 9 1 vo ls.length (ls.map sv)∧CurG wk w0 v l cb wr∧wa.heap.size≤wr.heap.size∧Hid (∀ y∈ls,levelOk y=true∧y.length≤5)) (fun _ i _=>2 - (intOf i).toNat)
    case atStart=>exact ⟨0,[],by omega,rfl,rfl,r0,hc3,hz0,fun x hx=>absurd hx (by simp)⟩
    case round =>
     obtain ⟨k,ls,hk,hp,rfl,hown,hcr,hzz,HP⟩:=hrel
     clear r0 hc3 hz0 hca
     go_wp2_with fail
     (with_reducible refine (fB3.out _ hcr).mono ?_);rintro e w3 ⟨⟨y,hy,rfl⟩,hc3,hg3⟩
     have hown3:=keep_cur hown hg3 hcw
     have z3:wa.heap.size≤w3.heap.size:=Nat.le_trans hzz hg3.size
     clear hown hg3 hcr
     by_cases hky:k < y
     ·have d1:decide ((k:Int) < (y:Int))=true:=decide_eq_true (by omega)
      have d1n:decide (k < y)=true:=decide_eq_true hky
      go_wp2_with fail
      (with_reducible refine (fL1.out _ hc3).mono ?_);rintro e w4 ⟨⟨t,ht,hlt,rfl⟩,hc4,hg4⟩
      have zt:t.length≤5:=hlt
      have HT:=Ld (ht.run.ok (by omega))
      have hown4:=keep_cur hown3 hg4 hcw
      have z4:wa.heap.size≤w4.heap.size:=Nat.le_trans z3 hg4.size
      clear ht hlt hown3 hc3 hg4
      go_wp2_with (at_builtin;refine wpList_append_own _ rfl _ _ 25 rfl wa.heap.size 9 i0 _ 1 16 Tryz.underlying25 hi hz0 hz1 hz2 rfl (by decide) _ _ _ rfl (hown4.alloc _) ⟨_,0,none⟩ 1 1 [.string ⟨t.toArray⟩] rfl rfl (oneNew _ _ _) (by simp [Value.oneCell']) (by simp only [maxLen];omega) (by omega) (by simp;omega) ?_;intro v1 w5 hown5 hg5 _)
      have hlo:∀ g,u7.ownBlock=some g→wa.heap.size≤g:=fun g hg=>(hown4.lt g hg).1
      have hc5:=(hc4.below ((Below.refl w4.heap.size w4).alloc (Nat.le_refl _) (.cells #[.string ⟨t.toArray⟩] 9))).grownS hg5 (fun e=>by have:=hlo cb e;omega) (fun g hg=>by have:=hlo g hg;have:=hc4.1.2.1;omega) (fun g hg=>by have:=hlo g hg;omega)
      have HP2:Hid (∀ y∈ls ++ [t],levelOk y=true∧y.length≤5):=fun y hy=>by
       rcases List.mem_append.1 hy with h | h
       ·exact HP.out y h
       ·simp only [List.mem_cons,List.not_mem_nil,or_false] at h
        subst h
        exact ⟨HT.out,zt⟩
      have z5:wa.heap.size≤w5.heap.size:=by have:=hg5.size;simp at this;omega
      clear hown4 hc4 hg5 HP hlo
      go_wp2
      go_roundw
      case rel=>exact ⟨k+1,ls ++ [t],by omega,by simp [hp],by go_num,by simpa [sv] using hown5,hc5,z5,HP2.out⟩
      case measure=>simp [intOf];omega
     ·have d1:decide ((k:Int) < (y:Int))=false:=decide_eq_false (by omega)
      have d1n:decide (k < y)=false:=decide_eq_false hky
      go_wp2_with fail
      (with_reducible refine (fN.out _ hc3).mono ?_);rintro e w4 ⟨⟨nm,hnt,hnm,hnl,rfl⟩,hc4,hg4⟩
      have hown4:=keep_cur hown3 hg4 hcw
      have hzl:=lvsB_le HP.out
      have zl:(lvsB ls).length≤12:=by
       have:ls.length*6≤12:=by omega
       omega
      have znm:(⟨nm.toArray⟩:ByteArray).size≤10000000:=by show nm.length≤_;omega
      have fC:=Ld (specConst ⟨nm.toArray⟩ hown4 (by omega) znm (by omega))
      have HT:Hid ((Tm.const nm ls).Ok):=⟨hnm,by omega,fun y hy=>(HP.out y hy).1⟩
      have HC4:=Ld hc4
      have HNT:=Ld hnt
      have HB:Hid ((Tm.const nm ls).bytes.length≤23):=by
       rw [Hid]
       simp only [Tm.bytes,List.length_cons,List.length_append,List.length_nil]
       omega
      clear hown3 hown4 hc3 hc4 hg4 HP hnm hnt hzl
      go_wp2_with fail
      (with_reducible refine fC.out.mono ?_);rintro e w5 ⟨rfl,rfl⟩
      go_wp2
      go_ret
      exact ⟨⟨.const nm ls,HT.out,HNT.out,by have:=HB.out;omega,rfl⟩,HC4.out⟩
   have b1:((x:Int) == 1)=false:=beq_eq_false_iff_ne.2 (by omega)
   go_wp2_with fail
   (with_reducible refine (fBv.out _ hca).mono ?_);rintro e wb ⟨⟨y,hy,rfl⟩,hcb,_⟩
   go_wp2_with fail
   (with_reducible refine (fV.out y _ (by omega)).mono ?_);rintro e wc ⟨rfl,hbc⟩
   have HCB:=Ld (hcb.below hbc)
   have HB:Hid ((Tm.var y).bytes.length≤12):=by
    have hd:(Lib.decDigits y).length≤10:=digits_len (by omega)
    rw [Hid]
    simp only [Tm.bytes,List.length_cons,List.length_append,List.length_nil]
    omega
   clear hcb hbc hca
   go_wp2
   go_ret
   exact ⟨⟨.var y,show y≤999 by omega,show y≤30 by omega,by have:=HB.out;omega,rfl⟩,HCB.out⟩
  clear fB3 fB4 fBv fL2 fL1 fN fV fO4
  go_wp2_with fail
  (with_reducible refine (ih2.out _ hc1).mono ?_);rintro e w2 ⟨⟨A,hA,hLA,hlA,rfl⟩,hc2⟩
  have zA0:(⟨A.bytes.toArray⟩:ByteArray).size≤100000:=by show A.bytes.length≤_;omega
  clear hc1
  go_wp2_with fail
  (with_reducible refine (fB7.out _ hc2).mono ?_);rintro e w3 ⟨⟨x,hx,rfl⟩,hc3,_⟩
  clear hc2
  rcases (by omega:x=0∨x=1∨x=2∨x=3∨x=4∨x=5∨x=6) with rfl | rfl | rfl | rfl | rfl | rfl | rfl
  ·go_wp2_with fail
   (with_reducible refine (ih2.out _ hc3).mono ?_);rintro e w4 ⟨⟨B,hB,hLB,hlB,rfl⟩,hc4⟩
   have HE:=Ld (lvBytes3 A.bytes B.bytes 64)
   have zB:(⟨B.bytes.toArray⟩:ByteArray).size≤100000:=by show B.bytes.length≤_;omega
   have HT:Hid ((Tm.app A B).Ok):=⟨hA,hB⟩
   have HL:Hid ((Tm.app A B).Drawn):=⟨hLA,hLB⟩
   have HB:Hid ((Tm.app A B).bytes.length≤M):=by
    rw [Hid]
    simp only [Tm.bytes,List.length_cons,List.length_append]
    omega
   have zA:((⟨#[64]⟩:ByteArray) ++ ⟨A.bytes.toArray⟩).size≤200000:=by rw [ByteArray.size_append];show 1+A.bytes.length≤_;omega
   have HC4:=Ld hc4
   clear hc3 hc4 hlB hB hLB
   go_wp2
   go_ret
   refine ⟨⟨.app A B,HT.out,HL.out,HB.out,?_⟩,HC4.out⟩
   rw [show (Tm.app A B).bytes=64 :: (A.bytes ++ B.bytes) from rfl,← HE.out]
   rfl
  ·go_wp2_with fail
   (with_reducible refine (ih2.out _ hc3).mono ?_);rintro e w4 ⟨⟨B,hB,hLB,hlB,rfl⟩,hc4⟩
   have HE:=Ld (lvBytes3 A.bytes B.bytes 64)
   have zB:(⟨B.bytes.toArray⟩:ByteArray).size≤100000:=by show B.bytes.length≤_;omega
   have HT:Hid ((Tm.app A B).Ok):=⟨hA,hB⟩
   have HL:Hid ((Tm.app A B).Drawn):=⟨hLA,hLB⟩
   have HB:Hid ((Tm.app A B).bytes.length≤M):=by
    rw [Hid]
    simp only [Tm.bytes,List.length_cons,List.length_append]
    omega
   have zA:((⟨#[64]⟩:ByteArray) ++ ⟨A.bytes.toArray⟩).size≤200000:=by rw [ByteArray.size_append];show 1+A.bytes.length≤_;omega
   have HC4:=Ld hc4
   clear hc3 hc4 hlB hB hLB
   go_wp2
   go_ret
   refine ⟨⟨.app A B,HT.out,HL.out,HB.out,?_⟩,HC4.out⟩
   rw [show (Tm.app A B).bytes=64 :: (A.bytes ++ B.bytes) from rfl,← HE.out]
   rfl
  ·go_wp2_with fail
   (with_reducible refine (ih2.out _ hc3).mono ?_);rintro e w4 ⟨⟨B,hB,hLB,hlB,rfl⟩,hc4⟩
   have HE:=Ld (lvBytes3 A.bytes B.bytes 64)
   have zB:(⟨B.bytes.toArray⟩:ByteArray).size≤100000:=by show B.bytes.length≤_;omega
   have HT:Hid ((Tm.app A B).Ok):=⟨hA,hB⟩
   have HL:Hid ((Tm.app A B).Drawn):=⟨hLA,hLB⟩
   have HB:Hid ((Tm.app A B).bytes.length≤M):=by
    rw [Hid]
    simp only [Tm.bytes,List.length_cons,List.length_append]
    omega
   have zA:((⟨#[64]⟩:ByteArray) ++ ⟨A.bytes.toArray⟩).size≤200000:=by rw [ByteArray.size_append];show 1+A.bytes.length≤_;omega
   have HC4:=Ld hc4
   clear hc3 hc4 hlB hB hLB
   go_wp2
   go_ret
   refine ⟨⟨.app A B,HT.out,HL.out,HB.out,?_⟩,HC4.out⟩
   rw [show (Tm.app A B).bytes=64 :: (A.bytes ++ B.bytes) from rfl,← HE.out]
   rfl
  ·go_wp2_with fail
   (with_reducible refine (ih3.out _ hc3).mono ?_);rintro e w4 ⟨⟨B,hB,hLB,hlB,rfl⟩,hc4⟩
   have HE:=Ld (lvBytes3 A.bytes B.bytes 112)
   have zB:(⟨B.bytes.toArray⟩:ByteArray).size≤100000:=by show B.bytes.length≤_;omega
   have HT:Hid ((Tm.pi A B).Ok):=⟨hA,hB⟩
   have HL:Hid ((Tm.pi A B).Drawn):=⟨hLA,hLB⟩
   have HB:Hid ((Tm.pi A B).bytes.length≤M):=by
    rw [Hid]
    simp only [Tm.bytes,List.length_cons,List.length_append]
    omega
   have zA:((⟨#[112]⟩:ByteArray) ++ ⟨A.bytes.toArray⟩).size≤200000:=by rw [ByteArray.size_append];show 1+A.bytes.length≤_;omega
   have HC4:=Ld hc4
   clear hc3 hc4 hlB hB hLB
   go_wp2
   go_ret
   refine ⟨⟨.pi A B,HT.out,HL.out,HB.out,?_⟩,HC4.out⟩
   rw [show (Tm.pi A B).bytes=112 :: (A.bytes ++ B.bytes) from rfl,← HE.out]
   rfl
  ·go_wp2_with fail
   (with_reducible refine (ih2.out _ hc3).mono ?_);rintro e w4 ⟨⟨V,hV,hLV,hlV,rfl⟩,hc4⟩
   have zA:((⟨#[116]⟩:ByteArray) ++ ⟨A.bytes.toArray⟩).size≤200000:=by rw [ByteArray.size_append];show 1+A.bytes.length≤_;omega
   have zV:(⟨V.bytes.toArray⟩:ByteArray).size≤100000:=by show V.bytes.length≤_;omega
   have zAV:((⟨#[116]⟩:ByteArray) ++ ⟨A.bytes.toArray⟩ ++ ⟨V.bytes.toArray⟩).size≤300000:=by rw [ByteArray.size_append];omega
   clear hc3
   go_wp2_with fail
   (with_reducible refine (ih3.out _ hc4).mono ?_);rintro e w5 ⟨⟨B,hB,hLB,hlB,rfl⟩,hc5⟩
   have HE:=Ld (let_text A.bytes V.bytes B.bytes)
   have zB:(⟨B.bytes.toArray⟩:ByteArray).size≤100000:=by show B.bytes.length≤_;omega
   have HT:Hid ((Tm.lett A V B).Ok):=⟨hA,hV,hB⟩
   have HL:Hid ((Tm.lett A V B).Drawn):=⟨hLA,hLV,hLB⟩
   have HB:Hid ((Tm.lett A V B).bytes.length≤M):=by
    rw [Hid]
    simp only [Tm.bytes,List.length_cons,List.length_append]
    omega
   have HC5:=Ld hc5
   clear hc4 hc5 hlB hB hlV hV hLV hLB
   go_wp2
   go_ret
   refine ⟨⟨.lett A V B,HT.out,HL.out,HB.out,?_⟩,HC5.out⟩
   rw [show (Tm.lett A V B).bytes=116 :: (A.bytes ++ (V.bytes ++ B.bytes)) from rfl,← HE.out]
   rfl
  ·go_wp2_with fail
   (with_reducible refine (ih3.out _ hc3).mono ?_);rintro e w4 ⟨⟨B,hB,hLB,hlB,rfl⟩,hc4⟩
   have HE:=Ld (lvBytes3 A.bytes B.bytes 108)
   have zB:(⟨B.bytes.toArray⟩:ByteArray).size≤100000:=by show B.bytes.length≤_;omega
   have HT:Hid ((Tm.lam A B).Ok):=⟨hA,hB⟩
   have HL:Hid ((Tm.lam A B).Drawn):=⟨hLA,hLB⟩
   have HB:Hid ((Tm.lam A B).bytes.length≤M):=by
    rw [Hid]
    simp only [Tm.bytes,List.length_cons,List.length_append]
    omega
   have zA:((⟨#[108]⟩:ByteArray) ++ ⟨A.bytes.toArray⟩).size≤200000:=by rw [ByteArray.size_append];show 1+A.bytes.length≤_;omega
   have HC4:=Ld hc4
   clear hc3 hc4 hlB hB hLB
   go_wp2
   go_ret
   refine ⟨⟨.lam A B,HT.out,HL.out,HB.out,?_⟩,HC4.out⟩
   rw [show (Tm.lam A B).bytes=108 :: (A.bytes ++ B.bytes) from rfl,← HE.out]
   rfl
  ·go_wp2_with fail
   (with_reducible refine (ih3.out _ hc3).mono ?_);rintro e w4 ⟨⟨B,hB,hLB,hlB,rfl⟩,hc4⟩
   have HE:=Ld (lvBytes3 A.bytes B.bytes 108)
   have zB:(⟨B.bytes.toArray⟩:ByteArray).size≤100000:=by show B.bytes.length≤_;omega
   have HT:Hid ((Tm.lam A B).Ok):=⟨hA,hB⟩
   have HL:Hid ((Tm.lam A B).Drawn):=⟨hLA,hLB⟩
   have HB:Hid ((Tm.lam A B).bytes.length≤M):=by
    rw [Hid]
    simp only [Tm.bytes,List.length_cons,List.length_append]
    omega
   have zA:((⟨#[108]⟩:ByteArray) ++ ⟨A.bytes.toArray⟩).size≤200000:=by rw [ByteArray.size_append];show 1+A.bytes.length≤_;omega
   have HC4:=Ld hc4
   clear hc3 hc4 hlB hB hLB
   go_wp2
   go_ret
   refine ⟨⟨.lam A B,HT.out,HL.out,HB.out,?_⟩,HC4.out⟩
   rw [show (Tm.lam A B).bytes=108 :: (A.bytes ++ B.bytes) from rfl,← HE.out]
   rfl
theorem drawTermK {w0:World} {v:Value} {l:List UInt8} {cb:Nat} (hl:CameB w0 v l) (hn:l.length≤2000000) (d bn:Nat) (h1:d≤4) (h2:bn+d≤20) (w:World) (hc:Cur w0 v l cb w) :
  Calls Tryz.prog 57 #[.pointer (some ⟨cb,0,none⟩),.int .i64 (bn:Int),.int .i64 (d:Int)] w fun e w'=>(∃ T:Tm,T.Ok∧T.Drawn∧T.bytes.length≤tmMax d∧e=.returned (.string ⟨T.bytes.toArray⟩))∧Cur w0 v l cb w'∧w.grownBy w' (some cb) :=
 (drawTermG hl hn d bn h1 h2 w ⟨hc,grownBy_of_below (Below.refl _ _) _⟩).mono fun _ _ ⟨a,b,c⟩=>⟨a,b,c⟩
theorem drawTermD {w0:World} {v:Value} {l:List UInt8} {cb:Nat} (hl:CameB w0 v l) (hn:l.length≤2000000):∀ (d bn:Nat),d≤4→bn+d≤20→∀ (w:World),Cur w0 v l cb w →
  Calls Tryz.prog 57 #[.pointer (some ⟨cb,0,none⟩),.int .i64 (bn:Int),.int .i64 (d:Int)] w (TmPostD w0 v l cb (tmMax d)) :=
 fun d bn h1 h2 w hc=>(drawTermK hl hn d bn h1 h2 w hc).mono fun _ _ ⟨a,b,_⟩=>⟨a,b⟩
def TlRes (w:World) (e:Ending) (w':World):Prop :=
 ∃ (v:Value) (ls:List Tm),ls.length≤3∧(∀ y∈ls,y.Ok∧y.Drawn∧y.bytes.length≤274)∧e=.returned v∧w'.ownsRow w.heap.size 9 1 v ls.length (ls.map fun p=>sv p.bytes)∧Below w.heap.size w w'
theorem drawList {w:World} {v:Value} {l:List UInt8} (hl:CameB w v l) (hn:l.length≤2000000) :
  Calls Tryz.prog 16 #[v] w (TlRes w):=by
 have f1:=Ld (drawNew hl hn)
 have fB:Hid (∀ cb W,Cur w v l cb W→Calls Tryz.prog 59 #[.pointer (some ⟨cb,0,none⟩),.int .i64 4] W fun e w'=>(∃ x:Nat,x < 4∧e=.returned (.int .i64 x))∧Cur w v l cb w'∧W.grownBy w' (some cb)):=fun cb W hW=>drawBelow hl hW hn 4 (by decide) (by decide)
 have fN:Hid (∀ cb W,Cur w v l cb W→Calls Tryz.prog 57 #[.pointer (some ⟨cb,0,none⟩),.int .i64 1,.int .i64 2] W fun e w'=>(∃ T:Tm,T.Ok∧T.Drawn∧T.bytes.length≤tmMax 2∧e=.returned (.string ⟨T.bytes.toArray⟩))∧Cur w v l cb w'∧W.grownBy w' (some cb)):=fun cb W hW=>drawTermK hl hn 2 1 (by decide) (by decide) W hW
 obtain ⟨i0,hi,hz0,hz1,hz2⟩:=info_parts infoStrT
 obtain ⟨a0,cap,_,_,rfl,_⟩:=hl
 go_enter Tryz.func16,Tryz.ntmps16
 go_wp2_with fail
 (with_reducible refine f1.out.mono ?_);rintro e wa ⟨cb,rfl,hca⟩
 have hcw:cb < wa.heap.size:=hca.2.2.1
 have r0:=World.ownsRow_lit (base:=wa.heap.size) (e:=9) (size:=1) wa #[] 0 (Nat.le_refl _) (by decide) (by simp)
 have bb0:=(Below.refl wa.heap.size wa).alloc (Nat.le_refl _) (.cells #[] 9)
 have hc3:=hca.below bb0
 have hz0':=bb0.size
 have hwa:w.heap.size≤wa.heap.size:=hca.1.size
 clear bb0 f1 hca
 go_wp2
 go_loopw [4,5] (fun vo i wr=>∃ (k:Nat) (ls:List Tm),k≤3∧ls.length=k∧i=.int .i64 k∧wr.ownsRow wa.heap.size 9 1 vo ls.length (ls.map fun p=>sv p.bytes)∧Cur w (.slice a0 l.length cap) l cb wr∧wa.heap.size≤wr.heap.size∧Hid (∀ y∈ls,y.Ok∧y.Drawn∧y.bytes.length≤274)) (fun _ i _=>4 - (intOf i).toNat)
 case atStart=>exact ⟨0,[],by omega,rfl,rfl,r0,hc3,hz0',fun x hx=>absurd hx (by simp)⟩
 case round =>
  obtain ⟨k,ls,hk,hp,rfl,hown,hcr,hzz,HP⟩:=hrel
  clear r0 hc3 hz0'
  go_wp2_with fail
  (with_reducible refine (fB.out _ _ hcr).mono ?_);rintro e w3 ⟨⟨y,hy,rfl⟩,hc3,hg3⟩
  have hown3:=keep_cur hown hg3 hcw
  have z3:wa.heap.size≤w3.heap.size:=Nat.le_trans hzz hg3.size
  clear hown hg3 hcr
  by_cases hky:k < y
  ·have d1:decide ((k:Int) < (y:Int))=true:=decide_eq_true (by omega)
   go_wp2_with fail
   (with_reducible refine (fN.out _ _ hc3).mono ?_);rintro e w4 ⟨⟨t,ht,htd,hlt,rfl⟩,hc4,hg4⟩
   have hown4:=keep_cur hown3 hg4 hcw
   have z4:wa.heap.size≤w4.heap.size:=Nat.le_trans z3 hg4.size
   clear hown3 hc3 hg4
   go_wp2_with (at_builtin;refine wpList_append_own _ rfl _ _ 25 rfl wa.heap.size 9 i0 _ 1 16 Tryz.underlying25 hi hz0 hz1 hz2 rfl (by decide) _ _ _ rfl (hown4.alloc _) ⟨_,0,none⟩ 1 1 [.string ⟨t.bytes.toArray⟩] rfl rfl (oneNew _ _ _) (by simp [Value.oneCell']) (by simp only [maxLen];omega) (by omega) (by simp;omega) ?_;intro v1 w5 hown5 hg5 _)
   have hlo:∀ g,u4.ownBlock=some g→wa.heap.size≤g:=fun g hg=>(hown4.lt g hg).1
   have hc5:=(hc4.below ((Below.refl w4.heap.size w4).alloc (Nat.le_refl _) (.cells #[.string ⟨t.bytes.toArray⟩] 9))).grownS hg5 (fun e=>by have:=hlo cb e;omega) (fun g hg=>by have:=hlo g hg;omega)
   have HP2:Hid (∀ y∈ls ++ [t],y.Ok∧y.Drawn∧y.bytes.length≤274):=fun y hy=>by
    rcases List.mem_append.1 hy with h | h
    ·exact HP.out y h
    ·simp only [List.mem_cons,List.not_mem_nil,or_false] at h
     subst h
     exact ⟨ht,htd,Nat.le_trans hlt (by decide)⟩
   have z5:wa.heap.size≤w5.heap.size:=by have:=hg5.size;simp at this;omega
   clear hown4 hc4 hg5 HP hlo ht htd hlt
   go_wp2
   go_roundw
   case rel=>exact ⟨k+1,ls ++ [t],by omega,by simp [hp],by go_num,by simpa [sv] using hown5,hc5,z5,HP2.out⟩
   case measure=>simp [intOf];omega
  ·have d1:decide ((k:Int) < (y:Int))=false:=decide_eq_false (by omega)
   have HW:=Ld (own_weakenS hown3 (b':=w.heap.size) hwa)
   have HC:=Ld hc3.1
   have HL:Hid (ls.length≤3):=(by omega:ls.length≤3)
   clear hown3 hc3 hp
   go_wp2
   go_ret
   exact ⟨_,ls,HL.out,HP.out,rfl,HW.out,HC.out⟩
end Go.Proofs.YtgonemalnljabaaGreatDoor
