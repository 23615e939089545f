/- TLeafC -/
import Derived.StillTailTactics
import Derived.Test.YtgonemalnljabaaGreatDoorZA3
set_option maxRecDepth 100000
set_option maxHeartbeats 16000000
set_option linter.unusedSimpArgs false
set_option linter.unusedVariables false
namespace Go.Proofs.YtgonemalnljabaaGreatDoor
open Go.ChangeShapes Go.WideShapes Go.ChangeAt Go.RowKit
theorem own_sliceL {w:World} {b n:Nat} {v:Value} {xs:List Value} (h:w.ownsRow b 9 1 v n xs):∃ a cap,v=.slice a n cap:=by
  rcases h.2 with ⟨rfl,rfl⟩ | ⟨g,cap,cur,rfl,_⟩
  · exact ⟨_,_,rfl⟩
  · exact ⟨_,_,rfl⟩
theorem own_weakenL {w:World} {b b' n z:Nat} {e:TypeId} {v:Value} {xs:List Value} (h:w.ownsRow b e z v n xs) (hb:b'≤b):w.ownsRow b' e z v n xs:=by
  obtain ⟨h1,h2 | ⟨g,cap,cur,e,h3,h4⟩⟩:=h
  · exact ⟨h1,.inl h2⟩
  · exact ⟨h1,.inr ⟨g,cap,cur,e,Nat.le_trans hb h3,h4⟩⟩
theorem Box.allocDrew {w wr:World} {k:Int} {tx:ByteArray} {lv:Value} (h:Box w wr k tx lv) (o:Obj):Box w (wr.alloc o).drew k tx lv:=by
  have h1:=h.grown (World.grownBy_alloc wr o none) (fun g hg=>by cases hg)
  exact ⟨h1.r,h1.rf,h1.n,h1.nf,h1.bel.drew,h1.sz⟩
theorem own_set {w:World} {b n z:Nat} {e:TypeId} {v:Value} {xs:List Value} (h:w.ownsRow b e z v n xs) (a:Addr) (u:Value) (ha:a.block < b):(w.setCell a u).ownsRow b e z v n xs:=by
  refine h.kept (row:=some a.block) ⟨rfl,rfl,rfl,by simp [World.setCell],fun k hk hne=>Below.heap_setCell _ _ _ _ (fun e=>hne (by rw [e]))⟩ ?_
  rcases hv:v.ownBlock with _ | g
  · exact .inl rfl
  · refine .inr fun e=>?_
    have:=(h.lt g hv).1
    injection e with e
    omega
theorem own_box {w wr:World} {n:Nat} {e:TypeId} {v:Value} {xs:List Value} {u0 u1 u2 u3 u4 u5 u6:Value} (h:wr.ownsRow (w.heap.size+2) e 1 v n xs) :
    (((((((wr.setCell ⟨w.heap.size,0,none⟩ u0).setCell ⟨w.heap.size,1,none⟩ u1).setCell ⟨w.heap.size,2,none⟩ u2).setCell ⟨w.heap.size,3,none⟩ u3).setCell ⟨w.heap.size,4,none⟩ u4).setCell ⟨w.heap.size,5,none⟩ u5).setCell ⟨w.heap.size,6,none⟩ u6).ownsRow (w.heap.size+2) e 1 v n xs :=
  own_set (own_set (own_set (own_set (own_set (own_set (own_set h _ _ (by simp)) _ _ (by simp)) _ _ (by simp)) _ _ (by simp)) _ _ (by simp)) _ _ (by simp)) _ _ (by simp)
theorem specLeafC (s:ByteArray) (p:Nat) (w:World) (hs:s.size≤1000000000) (hp:p < s.size) (hc:s[p]=99) :
    Calls Tryz.prog 182 #[.string s,.int .i64 (p:Int)] w (LeafPost s.data.toList p w):=by
  have hls:Hid (s.data.toList.length=s.size):=rfl
  have f1:=Ld fun q W (hq:q≤s.size)=>specL06Level s q W hs hq
  have hEx:∀ j,p+1+j≤s.size→(s.extract (p+1) (p+1+j)).size≤maxLen:=fun m hm=>by
    rw [ByteArray.size_extract]
    unfold maxLen
    omega
  have f2:=Ld fun j W (hj:p+1+j≤s.size)=>specNameOk (s.extract (p+1) (p+1+j)) W (hEx j hj)
  clear hEx
  have e0:((s[p].toNat:Int) == 118)=false:=zO (d:=118) (by rw [hc];decide)
  have e1:((s[p].toNat:Int) == 115)=false:=zO (d:=115) (by rw [hc];decide)
  have e2:((s[p].toNat:Int) == 99)=true:=yC hc
  have e3:(s[p].toNat:Int)=99:=by rw [hc];rfl
  have HC:=Ld hc
  clear hc
  have q1:(0:Int)≤(p:Int):=by omega
  have q2:(p:Int) < (s.size:Int):=by omega
  go_enter Tryz.func182,Tryz.ntmps182
  go_wp2
  have hbx:=Box.start w 99
  unfold boxW at hbx
  generalize (w.alloc (.cells #[.int .u8 0,.int .i64 0,.int .i64 0,.int .i64 0,.int .i64 0,.string ⟨#[]⟩,.slice none 0 0] 96)).alloc (.cells #[.int .u8 99,.int .i64 0,.int .i64 0,.int .i64 0,.int .i64 0,.string ⟨#[]⟩,.slice none 0 0] 96)=wb at hbx
  go_loopw [8] (fun i wr=>∃ j:Nat,p+1+j≤s.size∧j≤41∧i=.int .i64 ((p:Int)+1+(j:Int))∧wr=wb∧Hid (∀ i (h:p+1+i < s.data.toList.length),i < j→s.data.toList[p+1+i]≠59)) (fun i _=>s.size - (intOf i).toNat)
  case atStart=>exact ⟨0,by omega,by omega,by simp,rfl,fun i _ hi=>by omega⟩
  case round =>
    obtain ⟨j,hj,hj41,rfl,rfl,HN⟩:=hrel
    have q3:(0:Int)≤(p:Int)+1+(j:Int):=by omega
    have q5:((p:Int)+1+(j:Int)).toNat=p+1+j:=by omega
    have q6:(p:Int)+1≤(p:Int)+1+(j:Int):=by omega
    have q7:(p:Int)+1+(j:Int)≤(s.size:Int):=by omega
    have q9:(0:Int)≤(p:Int)+1:=by omega
    have q10:((p:Int)+1).toNat=p+1:=by omega
    by_cases hlt:p+1+j < s.size
    rotate_left
    · have HX:=Ld (const_no_name (l:=s.data.toList) (j:=j) hp HC.out ⟨by rw [hls.out];omega,HN.out,.inl (by rw [hls.out];omega)⟩ (.inl (by rw [hls.out];omega)))
      have d1:decide ((p:Int)+1+(j:Int) < (s.size:Int))=false:=decide_eq_false (by omega)
      have d2:decide ((s.size:Int)≤(p:Int)+1+(j:Int))=true:=decide_eq_true (by omega)
      have HB:=Ld hbx
      clear HN
      have r0:=HB.out.r 0 _ rfl
      have r1:=HB.out.r 1 _ rfl
      have r2:=HB.out.r 2 _ rfl
      have r3:=HB.out.r 3 _ rfl
      have r4:=HB.out.r 4 _ rfl
      have r5:=HB.out.r 5 _ rfl
      have r6:=HB.out.r 6 _ rfl
      have z0:=HB.out.rf 0 (by decide)
      have z1:=HB.out.rf 1 (by decide)
      have z2:=HB.out.rf 2 (by decide)
      have z3:=HB.out.rf 3 (by decide)
      have z4:=HB.out.rf 4 (by decide)
      have z5:=HB.out.rf 5 (by decide)
      have z6:=HB.out.rf 6 (by decide)
      have n0:=HB.out.n 0 _ rfl
      have n1:=HB.out.n 1 _ rfl
      have n2:=HB.out.n 2 _ rfl
      have n3:=HB.out.n 3 _ rfl
      have n4:=HB.out.n 4 _ rfl
      have n5:=HB.out.n 5 _ rfl
      have n6:=HB.out.n 6 _ rfl
      have y0:=HB.out.nf 0 (by decide)
      have y1:=HB.out.nf 1 (by decide)
      have y2:=HB.out.nf 2 (by decide)
      have y3:=HB.out.nf 3 (by decide)
      have y4:=HB.out.nf 4 (by decide)
      have y5:=HB.out.nf 5 (by decide)
      have y6:=HB.out.nf 6 (by decide)
      go_wp2
      have HB:=HB.out
      exact bodyPost_ret (v:=.tuple #[.agg #[.int .u8 99,.int .i64 0,.int .i64 0,.int .i64 0,.int .i64 0,.string ⟨#[]⟩,.slice none 0 0],.int .i64 (-1)]) (by simp [results,Tryz.results182,go_sem,r0,r1,r2,r3,r4,r5,r6]) rfl ⟨(((((((HB.bel.setCell (p:=⟨w.heap.size,0,none⟩) (Nat.le_refl _) _).setCell (p:=⟨w.heap.size,1,none⟩) (Nat.le_refl _) _).setCell (p:=⟨w.heap.size,2,none⟩) (Nat.le_refl _) _).setCell (p:=⟨w.heap.size,3,none⟩) (Nat.le_refl _) _).setCell (p:=⟨w.heap.size,4,none⟩) (Nat.le_refl _) _).setCell (p:=⟨w.heap.size,5,none⟩) (Nat.le_refl _) _).setCell (p:=⟨w.heap.size,6,none⟩) (Nat.le_refl _) _),⟨99,0,0,0,0,[],.slice none 0 0⟩,_,⟨_,_,_,rfl⟩,rfl,.inr ⟨rfl,HX.out⟩⟩
    have hll:p+1+j < s.data.toList.length:=hlt
    have q4:(p:Int)+1+(j:Int) < (s.size:Int):=by omega
    have d1:decide ((p:Int)+1+(j:Int) < (s.size:Int))=true:=decide_eq_true (by omega)
    have d2:decide ((s.size:Int)≤(p:Int)+1+(j:Int))=false:=decide_eq_false (by omega)
    by_cases h59:s[p+1+j]=59
    rotate_left
    · have e4:((s[p+1+j].toNat:Int) == 59)=false:=zO h59
      have e4':((s[p+1+j].toNat:Int) != 59)=true:=by rw [bne,e4];rfl
      by_cases h41:j < 41
      · have d3:decide ((p:Int)+1+(j:Int) < (p:Int)+40+2)=true:=decide_eq_true (by omega)
        have d3':decide ((p:Int)+1+(j:Int) < (p:Int)+42)=true:=decide_eq_true (by omega)
        have HN2:Hid (∀ i (h:p+1+i < s.data.toList.length),i < j+1→s.data.toList[p+1+i]≠59):=fun i h hi=>if e:i=j then by subst e;exact h59 else HN.out i h (by omega)
        clear h59 HN
        go_wp2
        go_roundw
        case rel=>exact ⟨j+1,by omega,by omega,by go_num,trivial,HN2.out⟩
        case measure=>simp [intOf];omega
      · have HX:=Ld (const_no_name (l:=s.data.toList) (j:=j) hp HC.out ⟨by rw [hls.out];omega,HN.out,.inr (.inl (by omega))⟩ (.inr (.inl ⟨hll,h59⟩)))
        have d3:decide ((p:Int)+1+(j:Int) < (p:Int)+40+2)=false:=decide_eq_false (by omega)
        have d3':decide ((p:Int)+1+(j:Int) < (p:Int)+42)=false:=decide_eq_false (by omega)
        have HB:=Ld hbx
        clear HN h59
        have r0:=HB.out.r 0 _ rfl
        have r1:=HB.out.r 1 _ rfl
        have r2:=HB.out.r 2 _ rfl
        have r3:=HB.out.r 3 _ rfl
        have r4:=HB.out.r 4 _ rfl
        have r5:=HB.out.r 5 _ rfl
        have r6:=HB.out.r 6 _ rfl
        have z0:=HB.out.rf 0 (by decide)
        have z1:=HB.out.rf 1 (by decide)
        have z2:=HB.out.rf 2 (by decide)
        have z3:=HB.out.rf 3 (by decide)
        have z4:=HB.out.rf 4 (by decide)
        have z5:=HB.out.rf 5 (by decide)
        have z6:=HB.out.rf 6 (by decide)
        have n0:=HB.out.n 0 _ rfl
        have n1:=HB.out.n 1 _ rfl
        have n2:=HB.out.n 2 _ rfl
        have n3:=HB.out.n 3 _ rfl
        have n4:=HB.out.n 4 _ rfl
        have n5:=HB.out.n 5 _ rfl
        have n6:=HB.out.n 6 _ rfl
        have y0:=HB.out.nf 0 (by decide)
        have y1:=HB.out.nf 1 (by decide)
        have y2:=HB.out.nf 2 (by decide)
        have y3:=HB.out.nf 3 (by decide)
        have y4:=HB.out.nf 4 (by decide)
        have y5:=HB.out.nf 5 (by decide)
        have y6:=HB.out.nf 6 (by decide)
        go_wp2
        have HB:=HB.out
        exact bodyPost_ret (v:=.tuple #[.agg #[.int .u8 99,.int .i64 0,.int .i64 0,.int .i64 0,.int .i64 0,.string ⟨#[]⟩,.slice none 0 0],.int .i64 (-1)]) (by simp [results,Tryz.results182,go_sem,r0,r1,r2,r3,r4,r5,r6]) rfl ⟨(((((((HB.bel.setCell (p:=⟨w.heap.size,0,none⟩) (Nat.le_refl _) _).setCell (p:=⟨w.heap.size,1,none⟩) (Nat.le_refl _) _).setCell (p:=⟨w.heap.size,2,none⟩) (Nat.le_refl _) _).setCell (p:=⟨w.heap.size,3,none⟩) (Nat.le_refl _) _).setCell (p:=⟨w.heap.size,4,none⟩) (Nat.le_refl _) _).setCell (p:=⟨w.heap.size,5,none⟩) (Nat.le_refl _) _).setCell (p:=⟨w.heap.size,6,none⟩) (Nat.le_refl _) _),⟨99,0,0,0,0,[],.slice none 0 0⟩,_,⟨_,_,_,rfl⟩,rfl,.inr ⟨rfl,HX.out⟩⟩
    have e4:((s[p+1+j].toNat:Int) == 59)=true:=yC h59
    have e4':((s[p+1+j].toNat:Int) != 59)=false:=by rw [bne,e4];rfl
    have HRN:Hid (RunN s.data.toList p j):=⟨by rw [hls.out];omega,HN.out,.inr (.inr ⟨hll,h59⟩)⟩
    have d3:decide ((p:Int)+1+(j:Int) < (p:Int)+40+2)=true∨decide ((p:Int)+1+(j:Int) < (p:Int)+40+2)=false:=by cases decide ((p:Int)+1+(j:Int) < (p:Int)+40+2)<;>simp
    have H59:=Ld h59
    clear HN h59
    have f3:=Ld (f2.out j wr hj)
    rw [extract_take] at f3
    have HB:=Ld hbx
    clear f2 hbx
    by_cases hnm:zK ((s.data.toList.drop (p+1)).take j)=true
    rotate_left
    · have hnm2:zK ((s.data.toList.drop (p+1)).take j)=false:=by simpa using hnm
      have HX:=Ld (const_no_name (l:=s.data.toList) (j:=j) hp HC.out HRN.out (.inr (.inr hnm2)))
      rw [hnm2] at f3
      clear hnm hnm2
      rcases d3 with d3 | d3
      all_goals
        go_wp2_with fail
        (with_reducible refine f3.out.mono ?_);rintro e w1 ⟨rfl,hb1⟩
        have HB1:=HB.out.grown (zD hb1 none) (fun g hg=>by cases hg)
        have HB:=Ld HB1
        clear hb1 HB1
        have r0:=HB.out.r 0 _ rfl
        have r1:=HB.out.r 1 _ rfl
        have r2:=HB.out.r 2 _ rfl
        have r3:=HB.out.r 3 _ rfl
        have r4:=HB.out.r 4 _ rfl
        have r5:=HB.out.r 5 _ rfl
        have r6:=HB.out.r 6 _ rfl
        have z0:=HB.out.rf 0 (by decide)
        have z1:=HB.out.rf 1 (by decide)
        have z2:=HB.out.rf 2 (by decide)
        have z3:=HB.out.rf 3 (by decide)
        have z4:=HB.out.rf 4 (by decide)
        have z5:=HB.out.rf 5 (by decide)
        have z6:=HB.out.rf 6 (by decide)
        have n0:=HB.out.n 0 _ rfl
        have n1:=HB.out.n 1 _ rfl
        have n2:=HB.out.n 2 _ rfl
        have n3:=HB.out.n 3 _ rfl
        have n4:=HB.out.n 4 _ rfl
        have n5:=HB.out.n 5 _ rfl
        have n6:=HB.out.n 6 _ rfl
        have y0:=HB.out.nf 0 (by decide)
        have y1:=HB.out.nf 1 (by decide)
        have y2:=HB.out.nf 2 (by decide)
        have y3:=HB.out.nf 3 (by decide)
        have y4:=HB.out.nf 4 (by decide)
        have y5:=HB.out.nf 5 (by decide)
        have y6:=HB.out.nf 6 (by decide)
        go_wp2
        have HB:=HB.out
        exact bodyPost_ret (v:=.tuple #[.agg #[.int .u8 99,.int .i64 0,.int .i64 0,.int .i64 0,.int .i64 0,.string ⟨#[]⟩,.slice none 0 0],.int .i64 (-1)]) (by simp [results,Tryz.results182,go_sem,r0,r1,r2,r3,r4,r5,r6]) rfl ⟨(((((((HB.bel.setCell (p:=⟨w.heap.size,0,none⟩) (Nat.le_refl _) _).setCell (p:=⟨w.heap.size,1,none⟩) (Nat.le_refl _) _).setCell (p:=⟨w.heap.size,2,none⟩) (Nat.le_refl _) _).setCell (p:=⟨w.heap.size,3,none⟩) (Nat.le_refl _) _).setCell (p:=⟨w.heap.size,4,none⟩) (Nat.le_refl _) _).setCell (p:=⟨w.heap.size,5,none⟩) (Nat.le_refl _) _).setCell (p:=⟨w.heap.size,6,none⟩) (Nat.le_refl _) _),⟨99,0,0,0,0,[],.slice none 0 0⟩,_,⟨_,_,_,rfl⟩,rfl,.inr ⟨rfl,HX.out⟩⟩
    have HNM:=Ld hnm
    rw [hnm] at f3
    clear hnm
    have h40:=nameOk_len HNM.out
    rw [List.length_take,List.length_drop,hls.out] at h40
    rcases d3 with d3 | d3
    rotate_left
    · rw [decide_eq_false_iff_not] at d3
      omega
    · skip
      go_wp2_with fail
      (with_reducible refine f3.out.mono ?_);rintro e w1 ⟨rfl,hb1⟩
      have HB1:=HB.out.grown (zD hb1 none) (fun g hg=>by cases hg)
      have HB:=Ld HB1
      clear hb1 HB1
      have r0:=HB.out.r 0 _ rfl
      have r1:=HB.out.r 1 _ rfl
      have r2:=HB.out.r 2 _ rfl
      have r3:=HB.out.r 3 _ rfl
      have r4:=HB.out.r 4 _ rfl
      have r5:=HB.out.r 5 _ rfl
      have r6:=HB.out.r 6 _ rfl
      have z0:=HB.out.rf 0 (by decide)
      have z1:=HB.out.rf 1 (by decide)
      have z2:=HB.out.rf 2 (by decide)
      have z3:=HB.out.rf 3 (by decide)
      have z4:=HB.out.rf 4 (by decide)
      have z5:=HB.out.rf 5 (by decide)
      have z6:=HB.out.rf 6 (by decide)
      have n0:=HB.out.n 0 _ rfl
      have n1:=HB.out.n 1 _ rfl
      have n2:=HB.out.n 2 _ rfl
      have n3:=HB.out.n 3 _ rfl
      have n4:=HB.out.n 4 _ rfl
      have n5:=HB.out.n 5 _ rfl
      have n6:=HB.out.n 6 _ rfl
      have y0:=HB.out.nf 0 (by decide)
      have y1:=HB.out.nf 1 (by decide)
      have y2:=HB.out.nf 2 (by decide)
      have y3:=HB.out.nf 3 (by decide)
      have y4:=HB.out.nf 4 (by decide)
      have y5:=HB.out.nf 5 (by decide)
      have y6:=HB.out.nf 6 (by decide)
      go_wp2
      have HB2:=HB.out.set (tx':=(s.extract (p+1) (p+1+j))) (lv':=.slice none 0 0) 5 (.string (s.extract (p+1) (p+1+j))) (by decide) (fun i v hv=>by
        match i,hv with
        | 0,h=>exact h
        | 1,h=>exact h
        | 2,h=>exact h
        | 3,h=>exact h
        | 4,h=>exact h
        | 5,h=>cases h;rfl
        | 6,h=>exact h
        | i+7,h=>simp at h)
      clear r0 r1 r2 r3 r4 r5 r6 z0 z1 z2 z3 z4 z5 z6 n0 n1 n2 n3 n4 n5 n6 y0 y1 y2 y3 y4 y5 y6 HB f3 d3
      have HB3:=Ld HB2
      clear HB2
      generalize w1.setCell ⟨w.heap.size+1,5,none⟩ (.string (s.extract (p+1) (p+1+j)))=w2 at HB3
      have HC0:=Ld (ConstUpTo.start HRN.out ⟨hll,H59.out⟩ HNM.out)
      go_loopw [7] (fun i wr=>∃ (q:Nat) (ls:List (List UInt8)) (lv:Value),q≤s.size∧i=.int .i64 q∧Hid (ConstUpTo s.data.toList p j ls q)∧Hid (Box w wr 99 (s.extract (p+1) (p+1+j)) lv)∧Hid (wr.ownsRow (w.heap.size+2) 9 1 lv ls.length (ls.map sv))) (fun i _=>s.size - (intOf i).toNat)
      case atStart=>exact ⟨p+1+j+1,[],.slice none 0 0,by omega,by simp,HC0.out,HB3.out,World.ownsRow_nil _ _ _ _⟩
      case round =>
        clear HB3 HC0
        obtain ⟨q,ls,lv,hq,rfl,HU,HB,HO⟩:=hrel
        have h3:=HU.out.le
        obtain ⟨la,lc,rfl⟩:=own_sliceL HO.out
        have u0:(0:Int)≤(q:Int):=by omega
        have u1:decide ((0:Int)≤(q:Int))=true:=decide_eq_true (by omega)
        have u2:decide ((q:Int) < 0)=false:=decide_eq_false (by omega)
        by_cases hlt2:q < s.size
        rotate_left
        · have HX:=Ld (HU.out.no hp HC.out (.inl (by rw [hls.out];omega)))
          have u3:decide ((q:Int) < (s.size:Int))=false:=decide_eq_false (by omega)
          have u4:decide ((s.size:Int)≤(q:Int))=true:=decide_eq_true (by omega)
          have r0:=HB.out.r 0 _ rfl
          have r1:=HB.out.r 1 _ rfl
          have r2:=HB.out.r 2 _ rfl
          have r3:=HB.out.r 3 _ rfl
          have r4:=HB.out.r 4 _ rfl
          have r5:=HB.out.r 5 _ rfl
          have r6:=HB.out.r 6 _ rfl
          have z0:=HB.out.rf 0 (by decide)
          have z1:=HB.out.rf 1 (by decide)
          have z2:=HB.out.rf 2 (by decide)
          have z3:=HB.out.rf 3 (by decide)
          have z4:=HB.out.rf 4 (by decide)
          have z5:=HB.out.rf 5 (by decide)
          have z6:=HB.out.rf 6 (by decide)
          have n0:=HB.out.n 0 _ rfl
          have n1:=HB.out.n 1 _ rfl
          have n2:=HB.out.n 2 _ rfl
          have n3:=HB.out.n 3 _ rfl
          have n4:=HB.out.n 4 _ rfl
          have n5:=HB.out.n 5 _ rfl
          have n6:=HB.out.n 6 _ rfl
          have y0:=HB.out.nf 0 (by decide)
          have y1:=HB.out.nf 1 (by decide)
          have y2:=HB.out.nf 2 (by decide)
          have y3:=HB.out.nf 3 (by decide)
          have y4:=HB.out.nf 4 (by decide)
          have y5:=HB.out.nf 5 (by decide)
          have y6:=HB.out.nf 6 (by decide)
          go_wp2
          have HB:=HB.out
          exact bodyPost_ret (v:=.tuple #[.agg #[.int .u8 99,.int .i64 0,.int .i64 0,.int .i64 0,.int .i64 0,.string (s.extract (p+1) (p+1+j)),(.slice la ls.length lc)],.int .i64 (-1)]) (by simp [results,Tryz.results182,go_sem,r0,r1,r2,r3,r4,r5,r6]) rfl ⟨(((((((HB.bel.setCell (p:=⟨w.heap.size,0,none⟩) (Nat.le_refl _) _).setCell (p:=⟨w.heap.size,1,none⟩) (Nat.le_refl _) _).setCell (p:=⟨w.heap.size,2,none⟩) (Nat.le_refl _) _).setCell (p:=⟨w.heap.size,3,none⟩) (Nat.le_refl _) _).setCell (p:=⟨w.heap.size,4,none⟩) (Nat.le_refl _) _).setCell (p:=⟨w.heap.size,5,none⟩) (Nat.le_refl _) _).setCell (p:=⟨w.heap.size,6,none⟩) (Nat.le_refl _) _),⟨99,0,0,0,0,(s.data.toList.drop (p+1)).take j,(.slice la ls.length lc)⟩,_,⟨_,_,_,rfl⟩,by rw [Nd.cells,ext_str];rfl,.inr ⟨rfl,HX.out⟩⟩
        have hll2:q < s.data.toList.length:=hlt2
        have u3:decide ((q:Int) < (s.size:Int))=true:=decide_eq_true (by omega)
        have u4:decide ((s.size:Int)≤(q:Int))=false:=decide_eq_false (by omega)
        have u5:(q:Int) < (s.size:Int):=by omega
        by_cases h46:s[q]=46
        · have v1:((s[q].toNat:Int) == 46)=true:=yC h46
          have v1':((s[q].toNat:Int) != 46)=false:=by rw [bne,v1];rfl
          have HT:=Ld (HU.out.done ⟨hp,HC.out⟩ hll2 h46)
          clear h46
          have r0:=HB.out.r 0 _ rfl
          have r1:=HB.out.r 1 _ rfl
          have r2:=HB.out.r 2 _ rfl
          have r3:=HB.out.r 3 _ rfl
          have r4:=HB.out.r 4 _ rfl
          have r5:=HB.out.r 5 _ rfl
          have r6:=HB.out.r 6 _ rfl
          have z0:=HB.out.rf 0 (by decide)
          have z1:=HB.out.rf 1 (by decide)
          have z2:=HB.out.rf 2 (by decide)
          have z3:=HB.out.rf 3 (by decide)
          have z4:=HB.out.rf 4 (by decide)
          have z5:=HB.out.rf 5 (by decide)
          have z6:=HB.out.rf 6 (by decide)
          have n0:=HB.out.n 0 _ rfl
          have n1:=HB.out.n 1 _ rfl
          have n2:=HB.out.n 2 _ rfl
          have n3:=HB.out.n 3 _ rfl
          have n4:=HB.out.n 4 _ rfl
          have n5:=HB.out.n 5 _ rfl
          have n6:=HB.out.n 6 _ rfl
          have y0:=HB.out.nf 0 (by decide)
          have y1:=HB.out.nf 1 (by decide)
          have y2:=HB.out.nf 2 (by decide)
          have y3:=HB.out.nf 3 (by decide)
          have y4:=HB.out.nf 4 (by decide)
          have y5:=HB.out.nf 5 (by decide)
          have y6:=HB.out.nf 6 (by decide)
          go_wp2
          have HB:=HB.out
          exact bodyPost_ret (v:=.tuple #[.agg #[.int .u8 99,.int .i64 0,.int .i64 0,.int .i64 0,.int .i64 0,.string (s.extract (p+1) (p+1+j)),(.slice la ls.length lc)],.int .i64 ((q:Int)+1)]) (by simp [results,Tryz.results182,go_sem,r0,r1,r2,r3,r4,r5,r6]) rfl ⟨(((((((HB.bel.setCell (p:=⟨w.heap.size,0,none⟩) (Nat.le_refl _) _).setCell (p:=⟨w.heap.size,1,none⟩) (Nat.le_refl _) _).setCell (p:=⟨w.heap.size,2,none⟩) (Nat.le_refl _) _).setCell (p:=⟨w.heap.size,3,none⟩) (Nat.le_refl _) _).setCell (p:=⟨w.heap.size,4,none⟩) (Nat.le_refl _) _).setCell (p:=⟨w.heap.size,5,none⟩) (Nat.le_refl _) _).setCell (p:=⟨w.heap.size,6,none⟩) (Nat.le_refl _) _),⟨99,0,0,0,0,(s.data.toList.drop (p+1)).take j,(.slice la ls.length lc)⟩,_,⟨_,_,_,rfl⟩,by rw [Nd.cells,ext_str];rfl,.inl ⟨.const ((s.data.toList.drop (p+1)).take j) ls,_,rfl,⟨rfl,rfl,own_weakenL (own_box HO.out) (by omega)⟩,HT.out.1,by rw [HT.out.2];simp⟩⟩
        have v1:((s[q].toNat:Int) == 46)=false:=zO h46
        have v1':((s[q].toNat:Int) != 46)=true:=by rw [bne,v1];rfl
        have H46:=Ld h46
        clear h46
        have g1:=f1.out q wr hq
        by_cases hl:∃ k,lend 1 (s.data.toList.drop q)=some k∧k≤60
        rotate_left
        · have HX:=Ld (HU.out.no hp HC.out (.inr ⟨⟨hll2,H46.out⟩,by
            cases hk:lend 1 (s.data.toList.drop q) with
            | none=>exact .inl rfl
            | some k=>exact .inr (.inr ⟨k,rfl,.inl (by have:¬ k≤60:=fun h=>hl ⟨k,hk,h⟩;omega)⟩)⟩))
          rw [show lvlEnd s.data.toList q=-1 by
            rw [lvlEnd]
            split
            · rename_i k hk
              rw [if_neg (fun h=>hl ⟨k,hk,h⟩)]
            · rfl] at g1
          have G1:=Ld g1
          clear hl g1
          have r0:=HB.out.r 0 _ rfl
          have r1:=HB.out.r 1 _ rfl
          have r2:=HB.out.r 2 _ rfl
          have r3:=HB.out.r 3 _ rfl
          have r4:=HB.out.r 4 _ rfl
          have r5:=HB.out.r 5 _ rfl
          have r6:=HB.out.r 6 _ rfl
          have z0:=HB.out.rf 0 (by decide)
          have z1:=HB.out.rf 1 (by decide)
          have z2:=HB.out.rf 2 (by decide)
          have z3:=HB.out.rf 3 (by decide)
          have z4:=HB.out.rf 4 (by decide)
          have z5:=HB.out.rf 5 (by decide)
          have z6:=HB.out.rf 6 (by decide)
          have n0:=HB.out.n 0 _ rfl
          have n1:=HB.out.n 1 _ rfl
          have n2:=HB.out.n 2 _ rfl
          have n3:=HB.out.n 3 _ rfl
          have n4:=HB.out.n 4 _ rfl
          have n5:=HB.out.n 5 _ rfl
          have n6:=HB.out.n 6 _ rfl
          have y0:=HB.out.nf 0 (by decide)
          have y1:=HB.out.nf 1 (by decide)
          have y2:=HB.out.nf 2 (by decide)
          have y3:=HB.out.nf 3 (by decide)
          have y4:=HB.out.nf 4 (by decide)
          have y5:=HB.out.nf 5 (by decide)
          have y6:=HB.out.nf 6 (by decide)
          go_wp2_with fail
          (with_reducible refine G1.out.mono ?_);rintro e w5 ⟨rfl,rfl⟩
          go_wp2
          have HB:=HB.out
          exact bodyPost_ret (v:=.tuple #[.agg #[.int .u8 99,.int .i64 0,.int .i64 0,.int .i64 0,.int .i64 0,.string (s.extract (p+1) (p+1+j)),(.slice la ls.length lc)],.int .i64 (-1)]) (by simp [results,Tryz.results182,go_sem,r0,r1,r2,r3,r4,r5,r6]) rfl ⟨(((((((HB.bel.setCell (p:=⟨w.heap.size,0,none⟩) (Nat.le_refl _) _).setCell (p:=⟨w.heap.size,1,none⟩) (Nat.le_refl _) _).setCell (p:=⟨w.heap.size,2,none⟩) (Nat.le_refl _) _).setCell (p:=⟨w.heap.size,3,none⟩) (Nat.le_refl _) _).setCell (p:=⟨w.heap.size,4,none⟩) (Nat.le_refl _) _).setCell (p:=⟨w.heap.size,5,none⟩) (Nat.le_refl _) _).setCell (p:=⟨w.heap.size,6,none⟩) (Nat.le_refl _) _),⟨99,0,0,0,0,(s.data.toList.drop (p+1)).take j,(.slice la ls.length lc)⟩,_,⟨_,_,_,rfl⟩,by rw [Nd.cells,ext_str];rfl,.inr ⟨rfl,HX.out⟩⟩
        obtain ⟨k,hk,h60⟩:=hl
        rw [show lvlEnd s.data.toList q=(q:Int)+(k:Int) by rw [lvlEnd,hk];simp [h60]] at g1
        have G1:=Ld g1
        have HK:=Ld hk
        have hkl:=(lend_take _ _ _ hk).2
        rw [List.length_drop,hls.out] at hkl
        clear hk g1
        have x0:(0:Int)≤(q:Int)+(k:Int):=by omega
        have x1:decide ((q:Int)+(k:Int) < 0)=false:=decide_eq_false (by omega)
        have x2:((q:Int)+(k:Int)).toNat=q+k:=by omega
        have x3:(q:Int)≤(q:Int)+(k:Int):=by omega
        have x4:(q:Int)+(k:Int)≤(s.size:Int):=by omega
        by_cases hlt3:q+k < s.size
        rotate_left
        · have HX:=Ld (HU.out.no hp HC.out (.inr ⟨⟨hll2,H46.out⟩,.inr (.inr ⟨k,HK.out,.inr (.inl (by rw [hls.out];omega))⟩)⟩))
          have x5:decide ((s.size:Int)≤(q:Int)+(k:Int))=true:=decide_eq_true (by omega)
          have r0:=HB.out.r 0 _ rfl
          have r1:=HB.out.r 1 _ rfl
          have r2:=HB.out.r 2 _ rfl
          have r3:=HB.out.r 3 _ rfl
          have r4:=HB.out.r 4 _ rfl
          have r5:=HB.out.r 5 _ rfl
          have r6:=HB.out.r 6 _ rfl
          have z0:=HB.out.rf 0 (by decide)
          have z1:=HB.out.rf 1 (by decide)
          have z2:=HB.out.rf 2 (by decide)
          have z3:=HB.out.rf 3 (by decide)
          have z4:=HB.out.rf 4 (by decide)
          have z5:=HB.out.rf 5 (by decide)
          have z6:=HB.out.rf 6 (by decide)
          have n0:=HB.out.n 0 _ rfl
          have n1:=HB.out.n 1 _ rfl
          have n2:=HB.out.n 2 _ rfl
          have n3:=HB.out.n 3 _ rfl
          have n4:=HB.out.n 4 _ rfl
          have n5:=HB.out.n 5 _ rfl
          have n6:=HB.out.n 6 _ rfl
          have y0:=HB.out.nf 0 (by decide)
          have y1:=HB.out.nf 1 (by decide)
          have y2:=HB.out.nf 2 (by decide)
          have y3:=HB.out.nf 3 (by decide)
          have y4:=HB.out.nf 4 (by decide)
          have y5:=HB.out.nf 5 (by decide)
          have y6:=HB.out.nf 6 (by decide)
          go_wp2_with fail
          (with_reducible refine G1.out.mono ?_);rintro e w5 ⟨rfl,rfl⟩
          go_wp2
          have HB:=HB.out
          exact bodyPost_ret (v:=.tuple #[.agg #[.int .u8 99,.int .i64 0,.int .i64 0,.int .i64 0,.int .i64 0,.string (s.extract (p+1) (p+1+j)),(.slice la ls.length lc)],.int .i64 (-1)]) (by simp [results,Tryz.results182,go_sem,r0,r1,r2,r3,r4,r5,r6]) rfl ⟨(((((((HB.bel.setCell (p:=⟨w.heap.size,0,none⟩) (Nat.le_refl _) _).setCell (p:=⟨w.heap.size,1,none⟩) (Nat.le_refl _) _).setCell (p:=⟨w.heap.size,2,none⟩) (Nat.le_refl _) _).setCell (p:=⟨w.heap.size,3,none⟩) (Nat.le_refl _) _).setCell (p:=⟨w.heap.size,4,none⟩) (Nat.le_refl _) _).setCell (p:=⟨w.heap.size,5,none⟩) (Nat.le_refl _) _).setCell (p:=⟨w.heap.size,6,none⟩) (Nat.le_refl _) _),⟨99,0,0,0,0,(s.data.toList.drop (p+1)).take j,(.slice la ls.length lc)⟩,_,⟨_,_,_,rfl⟩,by rw [Nd.cells,ext_str];rfl,.inr ⟨rfl,HX.out⟩⟩
        have hll3:q+k < s.data.toList.length:=hlt3
        have x5:decide ((s.size:Int)≤(q:Int)+(k:Int))=false:=decide_eq_false (by omega)
        have x6:(q:Int)+(k:Int) < (s.size:Int):=by omega
        by_cases h44:s[q+k]=44
        rotate_left
        · have HX:=Ld (HU.out.no hp HC.out (.inr ⟨⟨hll2,H46.out⟩,.inr (.inr ⟨k,HK.out,.inr (.inr ⟨hll3,h44⟩)⟩)⟩))
          have v2:((s[q+k].toNat:Int) == 44)=false:=zO h44
          have v2':((s[q+k].toNat:Int) != 44)=true:=by rw [bne,v2];rfl
          clear h44
          have r0:=HB.out.r 0 _ rfl
          have r1:=HB.out.r 1 _ rfl
          have r2:=HB.out.r 2 _ rfl
          have r3:=HB.out.r 3 _ rfl
          have r4:=HB.out.r 4 _ rfl
          have r5:=HB.out.r 5 _ rfl
          have r6:=HB.out.r 6 _ rfl
          have z0:=HB.out.rf 0 (by decide)
          have z1:=HB.out.rf 1 (by decide)
          have z2:=HB.out.rf 2 (by decide)
          have z3:=HB.out.rf 3 (by decide)
          have z4:=HB.out.rf 4 (by decide)
          have z5:=HB.out.rf 5 (by decide)
          have z6:=HB.out.rf 6 (by decide)
          have n0:=HB.out.n 0 _ rfl
          have n1:=HB.out.n 1 _ rfl
          have n2:=HB.out.n 2 _ rfl
          have n3:=HB.out.n 3 _ rfl
          have n4:=HB.out.n 4 _ rfl
          have n5:=HB.out.n 5 _ rfl
          have n6:=HB.out.n 6 _ rfl
          have y0:=HB.out.nf 0 (by decide)
          have y1:=HB.out.nf 1 (by decide)
          have y2:=HB.out.nf 2 (by decide)
          have y3:=HB.out.nf 3 (by decide)
          have y4:=HB.out.nf 4 (by decide)
          have y5:=HB.out.nf 5 (by decide)
          have y6:=HB.out.nf 6 (by decide)
          go_wp2_with fail
          (with_reducible refine G1.out.mono ?_);rintro e w5 ⟨rfl,rfl⟩
          go_wp2
          have HB:=HB.out
          exact bodyPost_ret (v:=.tuple #[.agg #[.int .u8 99,.int .i64 0,.int .i64 0,.int .i64 0,.int .i64 0,.string (s.extract (p+1) (p+1+j)),(.slice la ls.length lc)],.int .i64 (-1)]) (by simp [results,Tryz.results182,go_sem,r0,r1,r2,r3,r4,r5,r6]) rfl ⟨(((((((HB.bel.setCell (p:=⟨w.heap.size,0,none⟩) (Nat.le_refl _) _).setCell (p:=⟨w.heap.size,1,none⟩) (Nat.le_refl _) _).setCell (p:=⟨w.heap.size,2,none⟩) (Nat.le_refl _) _).setCell (p:=⟨w.heap.size,3,none⟩) (Nat.le_refl _) _).setCell (p:=⟨w.heap.size,4,none⟩) (Nat.le_refl _) _).setCell (p:=⟨w.heap.size,5,none⟩) (Nat.le_refl _) _).setCell (p:=⟨w.heap.size,6,none⟩) (Nat.le_refl _) _),⟨99,0,0,0,0,(s.data.toList.drop (p+1)).take j,(.slice la ls.length lc)⟩,_,⟨_,_,_,rfl⟩,by rw [Nd.cells,ext_str];rfl,.inr ⟨rfl,HX.out⟩⟩
        have v2:((s[q+k].toNat:Int) == 44)=true:=yC h44
        have v2':((s[q+k].toNat:Int) != 44)=false:=by rw [bne,v2];rfl
        have H44:=Ld h44
        clear h44
        by_cases hl3:ls.length < 3
        rotate_left
        · have HX:=Ld (HU.out.no hp HC.out (.inr ⟨⟨hll2,H46.out⟩,.inr (.inl (by omega))⟩))
          have v3:decide ((3:Int)≤(ls.length:Int))=true:=decide_eq_true (by omega)
          have v3n:decide (3≤ls.length)=true:=decide_eq_true (by omega)
          have r0:=HB.out.r 0 _ rfl
          have r1:=HB.out.r 1 _ rfl
          have r2:=HB.out.r 2 _ rfl
          have r3:=HB.out.r 3 _ rfl
          have r4:=HB.out.r 4 _ rfl
          have r5:=HB.out.r 5 _ rfl
          have r6:=HB.out.r 6 _ rfl
          have z0:=HB.out.rf 0 (by decide)
          have z1:=HB.out.rf 1 (by decide)
          have z2:=HB.out.rf 2 (by decide)
          have z3:=HB.out.rf 3 (by decide)
          have z4:=HB.out.rf 4 (by decide)
          have z5:=HB.out.rf 5 (by decide)
          have z6:=HB.out.rf 6 (by decide)
          have n0:=HB.out.n 0 _ rfl
          have n1:=HB.out.n 1 _ rfl
          have n2:=HB.out.n 2 _ rfl
          have n3:=HB.out.n 3 _ rfl
          have n4:=HB.out.n 4 _ rfl
          have n5:=HB.out.n 5 _ rfl
          have n6:=HB.out.n 6 _ rfl
          have y0:=HB.out.nf 0 (by decide)
          have y1:=HB.out.nf 1 (by decide)
          have y2:=HB.out.nf 2 (by decide)
          have y3:=HB.out.nf 3 (by decide)
          have y4:=HB.out.nf 4 (by decide)
          have y5:=HB.out.nf 5 (by decide)
          have y6:=HB.out.nf 6 (by decide)
          go_wp2_with fail
          (with_reducible refine G1.out.mono ?_);rintro e w5 ⟨rfl,rfl⟩
          go_wp2
          have HB:=HB.out
          exact bodyPost_ret (v:=.tuple #[.agg #[.int .u8 99,.int .i64 0,.int .i64 0,.int .i64 0,.int .i64 0,.string (s.extract (p+1) (p+1+j)),(.slice la ls.length lc)],.int .i64 (-1)]) (by simp [results,Tryz.results182,go_sem,r0,r1,r2,r3,r4,r5,r6]) rfl ⟨(((((((HB.bel.setCell (p:=⟨w.heap.size,0,none⟩) (Nat.le_refl _) _).setCell (p:=⟨w.heap.size,1,none⟩) (Nat.le_refl _) _).setCell (p:=⟨w.heap.size,2,none⟩) (Nat.le_refl _) _).setCell (p:=⟨w.heap.size,3,none⟩) (Nat.le_refl _) _).setCell (p:=⟨w.heap.size,4,none⟩) (Nat.le_refl _) _).setCell (p:=⟨w.heap.size,5,none⟩) (Nat.le_refl _) _).setCell (p:=⟨w.heap.size,6,none⟩) (Nat.le_refl _) _),⟨99,0,0,0,0,(s.data.toList.drop (p+1)).take j,(.slice la ls.length lc)⟩,_,⟨_,_,_,rfl⟩,by rw [Nd.cells,ext_str];rfl,.inr ⟨rfl,HX.out⟩⟩
        have v3:decide ((3:Int)≤(ls.length:Int))=false:=decide_eq_false (by omega)
        have v3n:decide (3≤ls.length)=false:=decide_eq_false (by omega)
        have HU2:=Ld (HU.out.next HK.out h60 hl3 hll3 H44.out)
        have r0:=HB.out.r 0 _ rfl
        have r1:=HB.out.r 1 _ rfl
        have r2:=HB.out.r 2 _ rfl
        have r3:=HB.out.r 3 _ rfl
        have r4:=HB.out.r 4 _ rfl
        have r5:=HB.out.r 5 _ rfl
        have r6:=HB.out.r 6 _ rfl
        have z0:=HB.out.rf 0 (by decide)
        have z1:=HB.out.rf 1 (by decide)
        have z2:=HB.out.rf 2 (by decide)
        have z3:=HB.out.rf 3 (by decide)
        have z4:=HB.out.rf 4 (by decide)
        have z5:=HB.out.rf 5 (by decide)
        have z6:=HB.out.rf 6 (by decide)
        have n0:=HB.out.n 0 _ rfl
        have n1:=HB.out.n 1 _ rfl
        have n2:=HB.out.n 2 _ rfl
        have n3:=HB.out.n 3 _ rfl
        have n4:=HB.out.n 4 _ rfl
        have n5:=HB.out.n 5 _ rfl
        have n6:=HB.out.n 6 _ rfl
        have y0:=HB.out.nf 0 (by decide)
        have y1:=HB.out.nf 1 (by decide)
        have y2:=HB.out.nf 2 (by decide)
        have y3:=HB.out.nf 3 (by decide)
        have y4:=HB.out.nf 4 (by decide)
        have y5:=HB.out.nf 5 (by decide)
        have y6:=HB.out.nf 6 (by decide)
        go_wp2_with fail
        (with_reducible refine G1.out.mono ?_);rintro e w5 ⟨rfl,rfl⟩
        obtain ⟨i0,hi,hz0,hz1,hz2⟩:=info_parts infoStr
        have hown:=HO.out
        have hzz:=HB.out.sz
        have ca:=(HB.out.grown (World.grownBy_alloc w5 (.cells #[.string (s.extract q (q+k))] 9) none) (fun g hg=>by cases hg)).n 6 _ rfl
        go_wp2_with fail
        go_region_law (first
          | (refine step_append_lies _ (by rfl) _ _ _ (by rfl) (w.heap.size+2) 9 i0 _ 1 16 Tryz.underlying25 hi hz0 hz1 hz2 rfl (by decide) (.slice la ls.length lc) ls.length _ (by rfl) ((hown.alloc _).drew)
              ⟨w5.heap.size,0,none⟩ 1 1 [.string (s.extract q (q+k))] (by rfl) (by rfl) (yK w5 _ _) (by simp [Value.oneCell'])
              (by decide) (by unfold maxLen;omega) (by omega) (by simp;omega) (w5.heap.size+1) (by simp) ?_;intro g cap w6 hown6 hgrow6 hat6 hlt6
             have B6:=Ld ((HB.out.allocDrew _).grown hgrow6 (fun g hg=>(hown.lt g hg).1))
             have m6:=B6.out.n 6 _ rfl
             have my6:=B6.out.nf 6 (by decide)))
        all_goals
          have HO6:=Ld (own_set hown6 ⟨w.heap.size+1,6,none⟩ (.slice (some ⟨g,0,none⟩) (ls.length+1) cap) (by simp))
          have HB6:=Ld (B6.out.set (tx':=(s.extract (p+1) (p+1+j))) (lv':=.slice (some ⟨g,0,none⟩) (ls.length+1) cap) 6 (.slice (some ⟨g,0,none⟩) (ls.length+1) cap) (by decide) (fun i v hv=>by
            match i,hv with
            | 0,h=>exact h
            | 1,h=>exact h
            | 2,h=>exact h
            | 3,h=>exact h
            | 4,h=>exact h
            | 5,h=>exact h
            | 6,h=>cases h;rfl
            | i+7,h=>simp at h))
          clear r0 r1 r2 r3 r4 r5 r6 z0 z1 z2 z3 z4 z5 z6 n0 n1 n2 n3 n4 n5 n6 y0 y1 y2 y3 y4 y5 y6 m6 my6
          go_wp2
          go_roundw
          case rel =>
            refine ⟨q+k+1,ls ++ [(s.data.toList.drop q).take k],_,by omega,by go_num,HU2.out,HB6.out,Ld ?_⟩
            have:=HO6.out
            simpa [sv,ext_str] using this
          case measure=>simp [intOf];omega
theorem specLeaf (s:ByteArray) (p:Nat) (w:World) (hs:s.size≤1000000000) (hp:p < s.size) :
    Calls Tryz.prog 182 #[.string s,.int .i64 (p:Int)] w (LeafPost s.data.toList p w):=by
  by_cases h1:s[p]=118
  · exact specLeafV s p w hs hp h1
  by_cases h2:s[p]=115
  · exact specLeafS s p w hs hp h2
  by_cases h3:s[p]=99
  · exact specLeafC s p w hs hp h3
  exact specLeafO s p w hp h1 h2 h3
end Go.Proofs.YtgonemalnljabaaGreatDoor
