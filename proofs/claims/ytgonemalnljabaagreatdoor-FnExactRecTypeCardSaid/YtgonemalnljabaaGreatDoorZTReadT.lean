/- TReadT -/
import Derived.Test.YtgonemalnljabaaGreatDoorZA4
set_option maxRecDepth 100000
set_option maxHeartbeats 16000000
set_option linter.unusedSimpArgs false
set_option linter.unusedVariables false
namespace Go.Proofs.YtgonemalnljabaaGreatDoor
open Go.ChangeShapes Go.WideShapes Go.ChangeAt Go.RowKit
theorem readTwo64 {K:Tm→Tm→Tm} (hT:Two 64 K) (s:ByteArray) (p:Nat) (W:World) {v:Value} {ns:List Nd} {B cb:Nat} (h:NSt B cb W v ns) (hs:s.size≤100000) (hp:p < s.size) (hn:ns.length≤p) (hc:s[p]=64)
    (IH:∀ p',p < p'→p'≤s.size→∀ (W:World) (v:Value) (ns:List Nd),NSt B cb W v ns→ns.length≤p'→Calls Tryz.prog 133 #[.string s,.int .i64 (p':Int),.pointer (some ⟨cb,0,none⟩)] W (ReadPost s.data.toList p' B cb W v ns)) :
    Calls Tryz.prog 133 #[.string s,.int .i64 (p:Int),.pointer (some ⟨cb,0,none⟩)] W (ReadPost s.data.toList p B cb W v ns):=by
  have hls:Hid (s.data.toList.length=s.size):=rfl
  have HT:=Ld hT
  have HIH:=Ld IH
  clear IH hT
  have HC:Hid (s.data.toList[p]'hp=64):=hc
  have e1:((s[p].toNat:Int) == 64)=true:=yC hc
  have e9:(s[p].toNat:Int)=64:=by rw [hc];rfl
  have d1:decide ((s.size:Int)≤(p:Int))=false:=decide_eq_false (by omega)
  have d1n:decide (s.size≤p)=false:=decide_eq_false (by omega)
  have q1:(0:Int)≤(p:Int):=by omega
  have q2:(p:Int) < (s.size:Int):=by omega
  clear hc
  have HH:=Ld h
  have zB:=h.lt
  have zL:=h.le
  have hcb:W.heap.size≠cb:=by omega
  have hv0:v.ownBlock≠some W.heap.size:=fun e=>by have:=(h.row.lt _ e).2;omega
  have hb0:=(Below.refl W.heap.size W).alloc (Nat.le_refl _) (.cells #[.int .u8 64,.int .i64 0,.int .i64 0,.int .i64 0,.int .i64 0,.string ⟨#[]⟩,.slice none 0 0] 96)
  have hst0:=h.below hb0
  have hbx0:NBox W.heap.size (W.alloc (.cells #[.int .u8 64,.int .i64 0,.int .i64 0,.int .i64 0,.int .i64 0,.string ⟨#[]⟩,.slice none 0 0] 96)) 64 0 0 0:=heap_alloc_new W _
  have K0:=KeepN.below (B:=B) (cb:=cb) (v:=v) hb0
  have f1:=HIH.out (p+1) (by omega) (by omega) _ v ns hst0 (by omega)
  rw [show ((p+1:Nat):Int)=(p:Int)+1 by omega] at f1
  have F1:=Ld f1
  clear f1 h hb0
  obtain ⟨n0,n1,n2,n3,n4,n5,n6⟩:=hbx0.cells
  have HK0:=Ld K0
  have HBX0:=Ld hbx0
  clear K0 hbx0
  go_enter Tryz.func133,Tryz.ntmps133
  go_wp2_with fail
  refine wp_loop_rounds 3 ?_
  rw [rounds_succ]
  go_wp2_with fail
  (with_reducible refine F1.out.mono ?_);rintro e W1 ⟨v1,ns1,hst1,hkn1,hks1,hext1,(⟨t1,r1,ht1,hlen1,hrep1,he⟩ | ⟨hno,rfl⟩)⟩
  rotate_left
  · have HN:=Ld (HT.out.no1 hp HC.out hno)
    have HK:=Ld (HK0.out.trans hkn1)
    have HS1:=Ld hst1
    have HE:=Ld hext1
    clear hno hst1 hkn1 hks1 hext1 hst0
    go_wp2
    go_ret2
    exact ⟨v1,ns1,HS1.out,HK.out,HK.out.strs HH.out,HE.out,.inr ⟨HN.out,rfl⟩⟩
  have hsz1:=t1.size_pos
  obtain ⟨j1,hj1⟩:∃ j,ns1.length=j+1:=⟨ns1.length - 1,by omega⟩
  have hln1:=congrArg List.length ht1.2
  rw [List.length_append,List.length_drop,hls.out] at hln1
  have hsl1:=t1.size_le
  rw [show ((ns1.length:Int) - 1)=(j1:Int) by omega] at he
  obtain ⟨m1,hm1⟩:∃ m,p+1+t1.bytes.length=m:=⟨_,rfl⟩
  rw [hm1] at he
  have hm1s:m1≤s.size:=by omega
  have hm1n:ns1.length≤m1:=by omega
  have hm1p:p < m1:=by omega
  have dm1:decide ((m1:Int) < 0)=false:=decide_eq_false (by omega)
  have HM1:=Ld hm1
  have HLEN1:=Ld hlen1
  have HT1:=Ld ht1
  rw [show ns1.length - 1=j1 by omega] at hrep1
  have HREP1:=Ld hrep1
  have HJ1:=Ld hj1
  obtain ⟨hbx1,ho1⟩:=hkn1.nbox HBX0.out hcb hv0
  have HBX1:=Ld hbx1
  have HB1':=Ld (hbx1.set1 j1)
  have HS1:=Ld (hst1.setOther (i:=1) hcb ho1 (.int .i64 (j1:Int)))
  have HK1:=Ld ((HK0.out.trans hkn1).setOther (i:=1) (Nat.le_refl _) (.int .i64 (j1:Int)))
  have HE1:=Ld hext1
  have HKS1:=Ld (KeepS.set (B:=B) (i:=1) hbx1 (.int .i64 (j1:Int)))
  obtain ⟨a0,a1,a2,a3,a4,a5,a6⟩:=hbx1.cells
  have b1:=hbx1.frozen 1
  have f2:=Ld (HIH.out m1 hm1p hm1s _ v1 ns1 HS1.out hm1n)
  clear hsz1 hj1 hln1 hsl1 hm1 hlen1 ht1 hrep1 hkn1 hks1 hst1 hext1 hst0 n0 n1 n2 n3 n4 n5 n6 F1 hbx1
  subst he
  go_wp2_with fail
  rw [rounds_succ]
  go_wp2_with fail
  (with_reducible refine f2.out.mono ?_);rintro e W2 ⟨v2,ns2,hst2,hkn2,hks2,hext2,(⟨t2,r2,ht2,hlen2,hrep2,he⟩ | ⟨hno,rfl⟩)⟩
  rotate_left
  · have HN:=Ld (HT.out.no2 hp HC.out HT1.out (by rw [HM1.out];exact hno))
    have HK:=Ld (HK1.out.trans hkn2)
    have HS2:=Ld hst2
    have HE:=Ld (HE1.out.trans hext2)
    clear hno hst2 hkn2 hks2 hext2
    go_wp2
    go_ret2
    exact ⟨v2,ns2,HS2.out,HK.out,HK.out.strs HH.out,HE.out,.inr ⟨HN.out,rfl⟩⟩
  have hsz2:=t2.size_pos
  obtain ⟨j2,hj2⟩:∃ j,ns2.length=j+1:=⟨ns2.length - 1,by omega⟩
  have hln2:=congrArg List.length ht2.2
  rw [List.length_append,List.length_drop,hls.out] at hln2
  have hsl2:=t2.size_le
  rw [show ((ns2.length:Int) - 1)=(j2:Int) by omega] at he
  obtain ⟨m2,hm2⟩:∃ m,m1+t2.bytes.length=m:=⟨_,rfl⟩
  rw [hm2] at he
  have hm2s:m2≤s.size:=by omega
  have hm2n:ns2.length≤m2:=by omega
  have dm2:decide ((m2:Int) < 0)=false:=decide_eq_false (by omega)
  have HM2:=Ld hm2
  have HLEN2:=Ld hlen2
  have HT2:=Ld ht2
  rw [show ns2.length - 1=j2 by omega] at hrep2
  have HREP2:=Ld hrep2
  have HJ2:=Ld hj2
  obtain ⟨hbx2,ho2⟩:=hkn2.nbox HB1'.out hcb ho1
  have hbx3:=hbx2.set2 j2
  have hst3:=hst2.setOther (i:=2) hcb ho2 (.int .i64 (j2:Int))
  have HK3:=Ld ((HK1.out.trans hkn2).setOther (i:=2) (Nat.le_refl _) (.int .i64 (j2:Int)))
  have HE3:=Ld (HE1.out.trans hext2)
  have HKS2:=Ld ((HKS1.out.trans hks2).trans (KeepS.set (B:=B) (i:=2) hbx2 (.int .i64 (j2:Int))))
  have HKS3:=Ld (KeepS.set (B:=B) (i:=2) hbx2 (.int .i64 (j2:Int)))
  have HX2:=Ld hext2
  obtain ⟨a0',a1',a2',a3',a4',a5',a6'⟩:=hbx2.cells
  have b2:=hbx2.frozen 2
  have hsz:W.heap.size < (W2.setCell ⟨W.heap.size,2,none⟩ (.int .i64 (j2:Int))).heap.size:=(Array.getElem?_eq_some_iff.1 hbx3).1
  obtain ⟨g0,g1,g2,g3,g4,g5,g6⟩:=hbx3.cells
  obtain ⟨i0,hi,hz0,hz1,hz2⟩:=info_parts infoNode
  obtain ⟨la,lc,rfl⟩:=yQ hst3.row
  have b3:=(Below.refl (W2.setCell ⟨W.heap.size,2,none⟩ (.int .i64 (j2:Int))).heap.size (W2.setCell ⟨W.heap.size,2,none⟩ (.int .i64 (j2:Int)))).alloc (Nat.le_refl _) (.cells #[.int .u8 64,.int .i64 (j1:Int),.int .i64 (j2:Int),.int .i64 0,.int .i64 0,.string ⟨#[]⟩,.slice none 0 0] 96)
  have hst4:=hst3.below b3
  have k0:=(b3.cell (p:=⟨W.heap.size,0,none⟩) hsz).trans g0
  have k1:=(b3.cell (p:=⟨W.heap.size,1,none⟩) hsz).trans g1
  have k2:=(b3.cell (p:=⟨W.heap.size,2,none⟩) hsz).trans g2
  have k3:=(b3.cell (p:=⟨W.heap.size,3,none⟩) hsz).trans g3
  have k4:=(b3.cell (p:=⟨W.heap.size,4,none⟩) hsz).trans g4
  have k5:=(b3.cell (p:=⟨W.heap.size,5,none⟩) hsz).trans g5
  have k6:=(b3.cell (p:=⟨W.heap.size,6,none⟩) hsz).trans g6
  have cb3:=hst3.cell
  have cb4:=hst4.cell
  have cf3:=hst3.froz
  have cf4:=hst4.froz
  have hown:=hst3.row
  have hle1:=hst3.le
  have hnl:ns2.length≤100000:=by omega
  have hcb4:cb < ((W2.setCell ⟨W.heap.size,2,none⟩ (.int .i64 (j2:Int))).alloc (.cells #[.int .u8 64,.int .i64 (j1:Int),.int .i64 (j2:Int),.int .i64 0,.int .i64 0,.string ⟨#[]⟩,.slice none 0 0] 96)).drew.heap.size:=Nat.lt_of_lt_of_le hst4.lt hst4.le
  have hne:some cb≠(Value.slice la ns2.length lc).ownBlock:=fun e=>hst3.ne e.symm
  have HS3:=Ld hst3
  have HB4:Hid (Below (W2.setCell ⟨W.heap.size,2,none⟩ (.int .i64 (j2:Int))).heap.size (W2.setCell ⟨W.heap.size,2,none⟩ (.int .i64 (j2:Int))) ((W2.setCell ⟨W.heap.size,2,none⟩ (.int .i64 (j2:Int))).alloc (.cells #[.int .u8 64,.int .i64 (j1:Int),.int .i64 (j2:Int),.int .i64 0,.int .i64 0,.string ⟨#[]⟩,.slice none 0 0] 96)).drew):=b3.drew
  clear hsz2 hj2 hln2 hsl2 hm2 hlen2 ht2 hrep2 hkn2 hks2 hst2 hext2 hbx2 hbx3 f2 hst3 hst4 b3 a0 a1 a2 a3 a4 a5 a6
  subst he
  go_wp2_with fail
  rw [rounds_succ]
  go_wp2_with fail
  go_region_law (first
    | (refine step_append_lies _ (by rfl) _ _ _ (by rfl) (cb - 1) 96 i0 _ 7 80 Tryz.underlying93 hi hz0 hz1 hz2 rfl (by decide) (.slice la ns2.length lc) ns2.length _ (by rfl) ((hown.alloc _).drew)
        ⟨(W2.setCell ⟨W.heap.size,2,none⟩ (.int .i64 (j2:Int))).heap.size,0,none⟩ 1 1 [.int .u8 64,.int .i64 (j1:Int),.int .i64 (j2:Int),.int .i64 0,.int .i64 0,.string ⟨#[]⟩,.slice none 0 0] (by first | rfl | simp [Act.eval]) (by rfl) (World.news_of_block (cs:=#[.int .u8 64,.int .i64 (j1:Int),.int .i64 (j2:Int),.int .i64 0,.int .i64 0,.string ⟨#[]⟩,.slice none 0 0]) (t:=96) (fr:=(0,0)) (heap_alloc_new (W2.setCell ⟨W.heap.size,2,none⟩ (.int .i64 (j2:Int))) _)) (by simp [Value.oneCell'])
        (by decide) (by unfold maxLen;omega) (by omega) (by first | (simp;omega) | (have:=hle1;simp at this ⊢;omega)) (W2.heap.size+1) (by simp) ?_;intro g cap w6 hown6 hgrow6 hat6 hlt6
       have m0:w6.cell? ⟨cb,0,none⟩=some (.slice la ns2.length lc):=(World.cell?_of_block (a:=⟨cb,0,none⟩) (hgrow6.block cb hcb4 hne)).trans cb4
       have mf:w6.frozen? ⟨cb,0,none⟩=false:=(World.frozen?_of_block (a:=⟨cb,0,none⟩) (hgrow6.block cb hcb4 hne)).trans cf4))
  all_goals
    have P:=HS3.out.push (g:=g) (nd:=⟨64,j1,j2,0,0,[],.slice none 0 0⟩) HB4.out hgrow6 hown6 rfl (by rcases hat6 with h | h;exact .inl h;exact .inr (by rw [h];simp)) ⟨_,_,_,rfl⟩
    have PP:=Ld P
    clear P hown6 hgrow6 hat6
    go_wp2
    go_ret2
    have hk:=HK3.out.trans PP.out.2
    have hs3:=PP.out.2.strs HS3.out
    refine ⟨_,ns2 ++ [⟨64,j1,j2,0,0,[],.slice none 0 0⟩],PP.out.1,hk,hk.strs HH.out,HE3.out.trans (Ext.snoc _ _),.inl ⟨K t1 t2,r2,HT.out.join hp HC.out HT1.out (by rw [HM1.out];exact HT2.out),?_,?_,?_⟩⟩
    · rw [HT.out.size,List.length_append,HLEN2.out,HLEN1.out,List.length_singleton]
      omega
    · refine HT.out.rep _ _ _ _ t1 t2 ⟨64,j1,j2,0,0,[],.slice none 0 0⟩ (by simp) rfl rfl (by have:=HJ2.out;simp;omega) (by have:=HJ1.out;have:=HJ2.out;have:=HLEN2.out;simp;omega) ?_ ?_
      · exact RepP.keep (HKS2.out.trans hs3) (HX2.out.trans (Ext.snoc _ _)) t1 j1 HREP1.out
      · exact RepP.keep (HKS3.out.trans hs3) (Ext.snoc _ _) t2 j2 HREP2.out
    · have e1:(K t1 t2).bytes.length=t1.bytes.length+t2.bytes.length+1:=by rw [HT.out.bytes];simp
      have h1:=HM1.out
      have h2:=HM2.out
      rw [show p+(K t1 t2).bytes.length=m2 by omega]
      simp
theorem readTwo108 {K:Tm→Tm→Tm} (hT:Two 108 K) (s:ByteArray) (p:Nat) (W:World) {v:Value} {ns:List Nd} {B cb:Nat} (h:NSt B cb W v ns) (hs:s.size≤100000) (hp:p < s.size) (hn:ns.length≤p) (hc:s[p]=108)
    (IH:∀ p',p < p'→p'≤s.size→∀ (W:World) (v:Value) (ns:List Nd),NSt B cb W v ns→ns.length≤p'→Calls Tryz.prog 133 #[.string s,.int .i64 (p':Int),.pointer (some ⟨cb,0,none⟩)] W (ReadPost s.data.toList p' B cb W v ns)) :
    Calls Tryz.prog 133 #[.string s,.int .i64 (p:Int),.pointer (some ⟨cb,0,none⟩)] W (ReadPost s.data.toList p B cb W v ns):=by
  have hls:Hid (s.data.toList.length=s.size):=rfl
  have HT:=Ld hT
  have HIH:=Ld IH
  clear IH hT
  have HC:Hid (s.data.toList[p]'hp=108):=hc
  have e0:((s[p].toNat:Int) == 64)=false:=zO (d:=64) (by rw [hc];decide)
  have e1:((s[p].toNat:Int) == 108)=true:=yC hc
  have e9:(s[p].toNat:Int)=108:=by rw [hc];rfl
  have d1:decide ((s.size:Int)≤(p:Int))=false:=decide_eq_false (by omega)
  have d1n:decide (s.size≤p)=false:=decide_eq_false (by omega)
  have q1:(0:Int)≤(p:Int):=by omega
  have q2:(p:Int) < (s.size:Int):=by omega
  clear hc
  have HH:=Ld h
  have zB:=h.lt
  have zL:=h.le
  have hcb:W.heap.size≠cb:=by omega
  have hv0:v.ownBlock≠some W.heap.size:=fun e=>by have:=(h.row.lt _ e).2;omega
  have hb0:=(Below.refl W.heap.size W).alloc (Nat.le_refl _) (.cells #[.int .u8 108,.int .i64 0,.int .i64 0,.int .i64 0,.int .i64 0,.string ⟨#[]⟩,.slice none 0 0] 96)
  have hst0:=h.below hb0
  have hbx0:NBox W.heap.size (W.alloc (.cells #[.int .u8 108,.int .i64 0,.int .i64 0,.int .i64 0,.int .i64 0,.string ⟨#[]⟩,.slice none 0 0] 96)) 108 0 0 0:=heap_alloc_new W _
  have K0:=KeepN.below (B:=B) (cb:=cb) (v:=v) hb0
  have f1:=HIH.out (p+1) (by omega) (by omega) _ v ns hst0 (by omega)
  rw [show ((p+1:Nat):Int)=(p:Int)+1 by omega] at f1
  have F1:=Ld f1
  clear f1 h hb0
  obtain ⟨n0,n1,n2,n3,n4,n5,n6⟩:=hbx0.cells
  have HK0:=Ld K0
  have HBX0:=Ld hbx0
  clear K0 hbx0
  go_enter Tryz.func133,Tryz.ntmps133
  go_wp2_with fail
  refine wp_loop_rounds 3 ?_
  rw [rounds_succ]
  go_wp2_with fail
  (with_reducible refine F1.out.mono ?_);rintro e W1 ⟨v1,ns1,hst1,hkn1,hks1,hext1,(⟨t1,r1,ht1,hlen1,hrep1,he⟩ | ⟨hno,rfl⟩)⟩
  rotate_left
  · have HN:=Ld (HT.out.no1 hp HC.out hno)
    have HK:=Ld (HK0.out.trans hkn1)
    have HS1:=Ld hst1
    have HE:=Ld hext1
    clear hno hst1 hkn1 hks1 hext1 hst0
    go_wp2
    go_ret2
    exact ⟨v1,ns1,HS1.out,HK.out,HK.out.strs HH.out,HE.out,.inr ⟨HN.out,rfl⟩⟩
  have hsz1:=t1.size_pos
  obtain ⟨j1,hj1⟩:∃ j,ns1.length=j+1:=⟨ns1.length - 1,by omega⟩
  have hln1:=congrArg List.length ht1.2
  rw [List.length_append,List.length_drop,hls.out] at hln1
  have hsl1:=t1.size_le
  rw [show ((ns1.length:Int) - 1)=(j1:Int) by omega] at he
  obtain ⟨m1,hm1⟩:∃ m,p+1+t1.bytes.length=m:=⟨_,rfl⟩
  rw [hm1] at he
  have hm1s:m1≤s.size:=by omega
  have hm1n:ns1.length≤m1:=by omega
  have hm1p:p < m1:=by omega
  have dm1:decide ((m1:Int) < 0)=false:=decide_eq_false (by omega)
  have HM1:=Ld hm1
  have HLEN1:=Ld hlen1
  have HT1:=Ld ht1
  rw [show ns1.length - 1=j1 by omega] at hrep1
  have HREP1:=Ld hrep1
  have HJ1:=Ld hj1
  obtain ⟨hbx1,ho1⟩:=hkn1.nbox HBX0.out hcb hv0
  have HBX1:=Ld hbx1
  have HB1':=Ld (hbx1.set1 j1)
  have HS1:=Ld (hst1.setOther (i:=1) hcb ho1 (.int .i64 (j1:Int)))
  have HK1:=Ld ((HK0.out.trans hkn1).setOther (i:=1) (Nat.le_refl _) (.int .i64 (j1:Int)))
  have HE1:=Ld hext1
  have HKS1:=Ld (KeepS.set (B:=B) (i:=1) hbx1 (.int .i64 (j1:Int)))
  obtain ⟨a0,a1,a2,a3,a4,a5,a6⟩:=hbx1.cells
  have b1:=hbx1.frozen 1
  have f2:=Ld (HIH.out m1 hm1p hm1s _ v1 ns1 HS1.out hm1n)
  clear hsz1 hj1 hln1 hsl1 hm1 hlen1 ht1 hrep1 hkn1 hks1 hst1 hext1 hst0 n0 n1 n2 n3 n4 n5 n6 F1 hbx1
  subst he
  go_wp2_with fail
  rw [rounds_succ]
  go_wp2_with fail
  (with_reducible refine f2.out.mono ?_);rintro e W2 ⟨v2,ns2,hst2,hkn2,hks2,hext2,(⟨t2,r2,ht2,hlen2,hrep2,he⟩ | ⟨hno,rfl⟩)⟩
  rotate_left
  · have HN:=Ld (HT.out.no2 hp HC.out HT1.out (by rw [HM1.out];exact hno))
    have HK:=Ld (HK1.out.trans hkn2)
    have HS2:=Ld hst2
    have HE:=Ld (HE1.out.trans hext2)
    clear hno hst2 hkn2 hks2 hext2
    go_wp2
    go_ret2
    exact ⟨v2,ns2,HS2.out,HK.out,HK.out.strs HH.out,HE.out,.inr ⟨HN.out,rfl⟩⟩
  have hsz2:=t2.size_pos
  obtain ⟨j2,hj2⟩:∃ j,ns2.length=j+1:=⟨ns2.length - 1,by omega⟩
  have hln2:=congrArg List.length ht2.2
  rw [List.length_append,List.length_drop,hls.out] at hln2
  have hsl2:=t2.size_le
  rw [show ((ns2.length:Int) - 1)=(j2:Int) by omega] at he
  obtain ⟨m2,hm2⟩:∃ m,m1+t2.bytes.length=m:=⟨_,rfl⟩
  rw [hm2] at he
  have hm2s:m2≤s.size:=by omega
  have hm2n:ns2.length≤m2:=by omega
  have dm2:decide ((m2:Int) < 0)=false:=decide_eq_false (by omega)
  have HM2:=Ld hm2
  have HLEN2:=Ld hlen2
  have HT2:=Ld ht2
  rw [show ns2.length - 1=j2 by omega] at hrep2
  have HREP2:=Ld hrep2
  have HJ2:=Ld hj2
  obtain ⟨hbx2,ho2⟩:=hkn2.nbox HB1'.out hcb ho1
  have hbx3:=hbx2.set2 j2
  have hst3:=hst2.setOther (i:=2) hcb ho2 (.int .i64 (j2:Int))
  have HK3:=Ld ((HK1.out.trans hkn2).setOther (i:=2) (Nat.le_refl _) (.int .i64 (j2:Int)))
  have HE3:=Ld (HE1.out.trans hext2)
  have HKS2:=Ld ((HKS1.out.trans hks2).trans (KeepS.set (B:=B) (i:=2) hbx2 (.int .i64 (j2:Int))))
  have HKS3:=Ld (KeepS.set (B:=B) (i:=2) hbx2 (.int .i64 (j2:Int)))
  have HX2:=Ld hext2
  obtain ⟨a0',a1',a2',a3',a4',a5',a6'⟩:=hbx2.cells
  have b2:=hbx2.frozen 2
  have hsz:W.heap.size < (W2.setCell ⟨W.heap.size,2,none⟩ (.int .i64 (j2:Int))).heap.size:=(Array.getElem?_eq_some_iff.1 hbx3).1
  obtain ⟨g0,g1,g2,g3,g4,g5,g6⟩:=hbx3.cells
  obtain ⟨i0,hi,hz0,hz1,hz2⟩:=info_parts infoNode
  obtain ⟨la,lc,rfl⟩:=yQ hst3.row
  have b3:=(Below.refl (W2.setCell ⟨W.heap.size,2,none⟩ (.int .i64 (j2:Int))).heap.size (W2.setCell ⟨W.heap.size,2,none⟩ (.int .i64 (j2:Int)))).alloc (Nat.le_refl _) (.cells #[.int .u8 108,.int .i64 (j1:Int),.int .i64 (j2:Int),.int .i64 0,.int .i64 0,.string ⟨#[]⟩,.slice none 0 0] 96)
  have hst4:=hst3.below b3
  have k0:=(b3.cell (p:=⟨W.heap.size,0,none⟩) hsz).trans g0
  have k1:=(b3.cell (p:=⟨W.heap.size,1,none⟩) hsz).trans g1
  have k2:=(b3.cell (p:=⟨W.heap.size,2,none⟩) hsz).trans g2
  have k3:=(b3.cell (p:=⟨W.heap.size,3,none⟩) hsz).trans g3
  have k4:=(b3.cell (p:=⟨W.heap.size,4,none⟩) hsz).trans g4
  have k5:=(b3.cell (p:=⟨W.heap.size,5,none⟩) hsz).trans g5
  have k6:=(b3.cell (p:=⟨W.heap.size,6,none⟩) hsz).trans g6
  have cb3:=hst3.cell
  have cb4:=hst4.cell
  have cf3:=hst3.froz
  have cf4:=hst4.froz
  have hown:=hst3.row
  have hle1:=hst3.le
  have hnl:ns2.length≤100000:=by omega
  have hcb4:cb < ((W2.setCell ⟨W.heap.size,2,none⟩ (.int .i64 (j2:Int))).alloc (.cells #[.int .u8 108,.int .i64 (j1:Int),.int .i64 (j2:Int),.int .i64 0,.int .i64 0,.string ⟨#[]⟩,.slice none 0 0] 96)).drew.heap.size:=Nat.lt_of_lt_of_le hst4.lt hst4.le
  have hne:some cb≠(Value.slice la ns2.length lc).ownBlock:=fun e=>hst3.ne e.symm
  have HS3:=Ld hst3
  have HB4:Hid (Below (W2.setCell ⟨W.heap.size,2,none⟩ (.int .i64 (j2:Int))).heap.size (W2.setCell ⟨W.heap.size,2,none⟩ (.int .i64 (j2:Int))) ((W2.setCell ⟨W.heap.size,2,none⟩ (.int .i64 (j2:Int))).alloc (.cells #[.int .u8 108,.int .i64 (j1:Int),.int .i64 (j2:Int),.int .i64 0,.int .i64 0,.string ⟨#[]⟩,.slice none 0 0] 96)).drew):=b3.drew
  clear hsz2 hj2 hln2 hsl2 hm2 hlen2 ht2 hrep2 hkn2 hks2 hst2 hext2 hbx2 hbx3 f2 hst3 hst4 b3 a0 a1 a2 a3 a4 a5 a6
  subst he
  go_wp2_with fail
  rw [rounds_succ]
  go_wp2_with fail
  go_region_law (first
    | (refine step_append_lies _ (by rfl) _ _ _ (by rfl) (cb - 1) 96 i0 _ 7 80 Tryz.underlying93 hi hz0 hz1 hz2 rfl (by decide) (.slice la ns2.length lc) ns2.length _ (by rfl) ((hown.alloc _).drew)
        ⟨(W2.setCell ⟨W.heap.size,2,none⟩ (.int .i64 (j2:Int))).heap.size,0,none⟩ 1 1 [.int .u8 108,.int .i64 (j1:Int),.int .i64 (j2:Int),.int .i64 0,.int .i64 0,.string ⟨#[]⟩,.slice none 0 0] (by first | rfl | simp [Act.eval]) (by rfl) (World.news_of_block (cs:=#[.int .u8 108,.int .i64 (j1:Int),.int .i64 (j2:Int),.int .i64 0,.int .i64 0,.string ⟨#[]⟩,.slice none 0 0]) (t:=96) (fr:=(0,0)) (heap_alloc_new (W2.setCell ⟨W.heap.size,2,none⟩ (.int .i64 (j2:Int))) _)) (by simp [Value.oneCell'])
        (by decide) (by unfold maxLen;omega) (by omega) (by first | (simp;omega) | (have:=hle1;simp at this ⊢;omega)) (W2.heap.size+1) (by simp) ?_;intro g cap w6 hown6 hgrow6 hat6 hlt6
       have m0:w6.cell? ⟨cb,0,none⟩=some (.slice la ns2.length lc):=(World.cell?_of_block (a:=⟨cb,0,none⟩) (hgrow6.block cb hcb4 hne)).trans cb4
       have mf:w6.frozen? ⟨cb,0,none⟩=false:=(World.frozen?_of_block (a:=⟨cb,0,none⟩) (hgrow6.block cb hcb4 hne)).trans cf4))
  all_goals
    have P:=HS3.out.push (g:=g) (nd:=⟨108,j1,j2,0,0,[],.slice none 0 0⟩) HB4.out hgrow6 hown6 rfl (by rcases hat6 with h | h;exact .inl h;exact .inr (by rw [h];simp)) ⟨_,_,_,rfl⟩
    have PP:=Ld P
    clear P hown6 hgrow6 hat6
    go_wp2
    go_ret2
    have hk:=HK3.out.trans PP.out.2
    have hs3:=PP.out.2.strs HS3.out
    refine ⟨_,ns2 ++ [⟨108,j1,j2,0,0,[],.slice none 0 0⟩],PP.out.1,hk,hk.strs HH.out,HE3.out.trans (Ext.snoc _ _),.inl ⟨K t1 t2,r2,HT.out.join hp HC.out HT1.out (by rw [HM1.out];exact HT2.out),?_,?_,?_⟩⟩
    · rw [HT.out.size,List.length_append,HLEN2.out,HLEN1.out,List.length_singleton]
      omega
    · refine HT.out.rep _ _ _ _ t1 t2 ⟨108,j1,j2,0,0,[],.slice none 0 0⟩ (by simp) rfl rfl (by have:=HJ2.out;simp;omega) (by have:=HJ1.out;have:=HJ2.out;have:=HLEN2.out;simp;omega) ?_ ?_
      · exact RepP.keep (HKS2.out.trans hs3) (HX2.out.trans (Ext.snoc _ _)) t1 j1 HREP1.out
      · exact RepP.keep (HKS3.out.trans hs3) (Ext.snoc _ _) t2 j2 HREP2.out
    · have e1:(K t1 t2).bytes.length=t1.bytes.length+t2.bytes.length+1:=by rw [HT.out.bytes];simp
      have h1:=HM1.out
      have h2:=HM2.out
      rw [show p+(K t1 t2).bytes.length=m2 by omega]
      simp
theorem readTwo112 {K:Tm→Tm→Tm} (hT:Two 112 K) (s:ByteArray) (p:Nat) (W:World) {v:Value} {ns:List Nd} {B cb:Nat} (h:NSt B cb W v ns) (hs:s.size≤100000) (hp:p < s.size) (hn:ns.length≤p) (hc:s[p]=112)
    (IH:∀ p',p < p'→p'≤s.size→∀ (W:World) (v:Value) (ns:List Nd),NSt B cb W v ns→ns.length≤p'→Calls Tryz.prog 133 #[.string s,.int .i64 (p':Int),.pointer (some ⟨cb,0,none⟩)] W (ReadPost s.data.toList p' B cb W v ns)) :
    Calls Tryz.prog 133 #[.string s,.int .i64 (p:Int),.pointer (some ⟨cb,0,none⟩)] W (ReadPost s.data.toList p B cb W v ns):=by
  have hls:Hid (s.data.toList.length=s.size):=rfl
  have HT:=Ld hT
  have HIH:=Ld IH
  clear IH hT
  have HC:Hid (s.data.toList[p]'hp=112):=hc
  have e0:((s[p].toNat:Int) == 64)=false:=zO (d:=64) (by rw [hc];decide)
  have e00:((s[p].toNat:Int) == 108)=false:=zO (d:=108) (by rw [hc];decide)
  have e1:((s[p].toNat:Int) == 112)=true:=yC hc
  have e9:(s[p].toNat:Int)=112:=by rw [hc];rfl
  have d1:decide ((s.size:Int)≤(p:Int))=false:=decide_eq_false (by omega)
  have d1n:decide (s.size≤p)=false:=decide_eq_false (by omega)
  have q1:(0:Int)≤(p:Int):=by omega
  have q2:(p:Int) < (s.size:Int):=by omega
  clear hc
  have HH:=Ld h
  have zB:=h.lt
  have zL:=h.le
  have hcb:W.heap.size≠cb:=by omega
  have hv0:v.ownBlock≠some W.heap.size:=fun e=>by have:=(h.row.lt _ e).2;omega
  have hb0:=(Below.refl W.heap.size W).alloc (Nat.le_refl _) (.cells #[.int .u8 112,.int .i64 0,.int .i64 0,.int .i64 0,.int .i64 0,.string ⟨#[]⟩,.slice none 0 0] 96)
  have hst0:=h.below hb0
  have hbx0:NBox W.heap.size (W.alloc (.cells #[.int .u8 112,.int .i64 0,.int .i64 0,.int .i64 0,.int .i64 0,.string ⟨#[]⟩,.slice none 0 0] 96)) 112 0 0 0:=heap_alloc_new W _
  have K0:=KeepN.below (B:=B) (cb:=cb) (v:=v) hb0
  have f1:=HIH.out (p+1) (by omega) (by omega) _ v ns hst0 (by omega)
  rw [show ((p+1:Nat):Int)=(p:Int)+1 by omega] at f1
  have F1:=Ld f1
  clear f1 h hb0
  obtain ⟨n0,n1,n2,n3,n4,n5,n6⟩:=hbx0.cells
  have HK0:=Ld K0
  have HBX0:=Ld hbx0
  clear K0 hbx0
  go_enter Tryz.func133,Tryz.ntmps133
  go_wp2_with fail
  refine wp_loop_rounds 3 ?_
  rw [rounds_succ]
  go_wp2_with fail
  (with_reducible refine F1.out.mono ?_);rintro e W1 ⟨v1,ns1,hst1,hkn1,hks1,hext1,(⟨t1,r1,ht1,hlen1,hrep1,he⟩ | ⟨hno,rfl⟩)⟩
  rotate_left
  · have HN:=Ld (HT.out.no1 hp HC.out hno)
    have HK:=Ld (HK0.out.trans hkn1)
    have HS1:=Ld hst1
    have HE:=Ld hext1
    clear hno hst1 hkn1 hks1 hext1 hst0
    go_wp2
    go_ret2
    exact ⟨v1,ns1,HS1.out,HK.out,HK.out.strs HH.out,HE.out,.inr ⟨HN.out,rfl⟩⟩
  have hsz1:=t1.size_pos
  obtain ⟨j1,hj1⟩:∃ j,ns1.length=j+1:=⟨ns1.length - 1,by omega⟩
  have hln1:=congrArg List.length ht1.2
  rw [List.length_append,List.length_drop,hls.out] at hln1
  have hsl1:=t1.size_le
  rw [show ((ns1.length:Int) - 1)=(j1:Int) by omega] at he
  obtain ⟨m1,hm1⟩:∃ m,p+1+t1.bytes.length=m:=⟨_,rfl⟩
  rw [hm1] at he
  have hm1s:m1≤s.size:=by omega
  have hm1n:ns1.length≤m1:=by omega
  have hm1p:p < m1:=by omega
  have dm1:decide ((m1:Int) < 0)=false:=decide_eq_false (by omega)
  have HM1:=Ld hm1
  have HLEN1:=Ld hlen1
  have HT1:=Ld ht1
  rw [show ns1.length - 1=j1 by omega] at hrep1
  have HREP1:=Ld hrep1
  have HJ1:=Ld hj1
  obtain ⟨hbx1,ho1⟩:=hkn1.nbox HBX0.out hcb hv0
  have HBX1:=Ld hbx1
  have HB1':=Ld (hbx1.set1 j1)
  have HS1:=Ld (hst1.setOther (i:=1) hcb ho1 (.int .i64 (j1:Int)))
  have HK1:=Ld ((HK0.out.trans hkn1).setOther (i:=1) (Nat.le_refl _) (.int .i64 (j1:Int)))
  have HE1:=Ld hext1
  have HKS1:=Ld (KeepS.set (B:=B) (i:=1) hbx1 (.int .i64 (j1:Int)))
  obtain ⟨a0,a1,a2,a3,a4,a5,a6⟩:=hbx1.cells
  have b1:=hbx1.frozen 1
  have f2:=Ld (HIH.out m1 hm1p hm1s _ v1 ns1 HS1.out hm1n)
  clear hsz1 hj1 hln1 hsl1 hm1 hlen1 ht1 hrep1 hkn1 hks1 hst1 hext1 hst0 n0 n1 n2 n3 n4 n5 n6 F1 hbx1
  subst he
  go_wp2_with fail
  rw [rounds_succ]
  go_wp2_with fail
  (with_reducible refine f2.out.mono ?_);rintro e W2 ⟨v2,ns2,hst2,hkn2,hks2,hext2,(⟨t2,r2,ht2,hlen2,hrep2,he⟩ | ⟨hno,rfl⟩)⟩
  rotate_left
  · have HN:=Ld (HT.out.no2 hp HC.out HT1.out (by rw [HM1.out];exact hno))
    have HK:=Ld (HK1.out.trans hkn2)
    have HS2:=Ld hst2
    have HE:=Ld (HE1.out.trans hext2)
    clear hno hst2 hkn2 hks2 hext2
    go_wp2
    go_ret2
    exact ⟨v2,ns2,HS2.out,HK.out,HK.out.strs HH.out,HE.out,.inr ⟨HN.out,rfl⟩⟩
  have hsz2:=t2.size_pos
  obtain ⟨j2,hj2⟩:∃ j,ns2.length=j+1:=⟨ns2.length - 1,by omega⟩
  have hln2:=congrArg List.length ht2.2
  rw [List.length_append,List.length_drop,hls.out] at hln2
  have hsl2:=t2.size_le
  rw [show ((ns2.length:Int) - 1)=(j2:Int) by omega] at he
  obtain ⟨m2,hm2⟩:∃ m,m1+t2.bytes.length=m:=⟨_,rfl⟩
  rw [hm2] at he
  have hm2s:m2≤s.size:=by omega
  have hm2n:ns2.length≤m2:=by omega
  have dm2:decide ((m2:Int) < 0)=false:=decide_eq_false (by omega)
  have HM2:=Ld hm2
  have HLEN2:=Ld hlen2
  have HT2:=Ld ht2
  rw [show ns2.length - 1=j2 by omega] at hrep2
  have HREP2:=Ld hrep2
  have HJ2:=Ld hj2
  obtain ⟨hbx2,ho2⟩:=hkn2.nbox HB1'.out hcb ho1
  have hbx3:=hbx2.set2 j2
  have hst3:=hst2.setOther (i:=2) hcb ho2 (.int .i64 (j2:Int))
  have HK3:=Ld ((HK1.out.trans hkn2).setOther (i:=2) (Nat.le_refl _) (.int .i64 (j2:Int)))
  have HE3:=Ld (HE1.out.trans hext2)
  have HKS2:=Ld ((HKS1.out.trans hks2).trans (KeepS.set (B:=B) (i:=2) hbx2 (.int .i64 (j2:Int))))
  have HKS3:=Ld (KeepS.set (B:=B) (i:=2) hbx2 (.int .i64 (j2:Int)))
  have HX2:=Ld hext2
  obtain ⟨a0',a1',a2',a3',a4',a5',a6'⟩:=hbx2.cells
  have b2:=hbx2.frozen 2
  have hsz:W.heap.size < (W2.setCell ⟨W.heap.size,2,none⟩ (.int .i64 (j2:Int))).heap.size:=(Array.getElem?_eq_some_iff.1 hbx3).1
  obtain ⟨g0,g1,g2,g3,g4,g5,g6⟩:=hbx3.cells
  obtain ⟨i0,hi,hz0,hz1,hz2⟩:=info_parts infoNode
  obtain ⟨la,lc,rfl⟩:=yQ hst3.row
  have b3:=(Below.refl (W2.setCell ⟨W.heap.size,2,none⟩ (.int .i64 (j2:Int))).heap.size (W2.setCell ⟨W.heap.size,2,none⟩ (.int .i64 (j2:Int)))).alloc (Nat.le_refl _) (.cells #[.int .u8 112,.int .i64 (j1:Int),.int .i64 (j2:Int),.int .i64 0,.int .i64 0,.string ⟨#[]⟩,.slice none 0 0] 96)
  have hst4:=hst3.below b3
  have k0:=(b3.cell (p:=⟨W.heap.size,0,none⟩) hsz).trans g0
  have k1:=(b3.cell (p:=⟨W.heap.size,1,none⟩) hsz).trans g1
  have k2:=(b3.cell (p:=⟨W.heap.size,2,none⟩) hsz).trans g2
  have k3:=(b3.cell (p:=⟨W.heap.size,3,none⟩) hsz).trans g3
  have k4:=(b3.cell (p:=⟨W.heap.size,4,none⟩) hsz).trans g4
  have k5:=(b3.cell (p:=⟨W.heap.size,5,none⟩) hsz).trans g5
  have k6:=(b3.cell (p:=⟨W.heap.size,6,none⟩) hsz).trans g6
  have cb3:=hst3.cell
  have cb4:=hst4.cell
  have cf3:=hst3.froz
  have cf4:=hst4.froz
  have hown:=hst3.row
  have hle1:=hst3.le
  have hnl:ns2.length≤100000:=by omega
  have hcb4:cb < ((W2.setCell ⟨W.heap.size,2,none⟩ (.int .i64 (j2:Int))).alloc (.cells #[.int .u8 112,.int .i64 (j1:Int),.int .i64 (j2:Int),.int .i64 0,.int .i64 0,.string ⟨#[]⟩,.slice none 0 0] 96)).drew.heap.size:=Nat.lt_of_lt_of_le hst4.lt hst4.le
  have hne:some cb≠(Value.slice la ns2.length lc).ownBlock:=fun e=>hst3.ne e.symm
  have HS3:=Ld hst3
  have HB4:Hid (Below (W2.setCell ⟨W.heap.size,2,none⟩ (.int .i64 (j2:Int))).heap.size (W2.setCell ⟨W.heap.size,2,none⟩ (.int .i64 (j2:Int))) ((W2.setCell ⟨W.heap.size,2,none⟩ (.int .i64 (j2:Int))).alloc (.cells #[.int .u8 112,.int .i64 (j1:Int),.int .i64 (j2:Int),.int .i64 0,.int .i64 0,.string ⟨#[]⟩,.slice none 0 0] 96)).drew):=b3.drew
  clear hsz2 hj2 hln2 hsl2 hm2 hlen2 ht2 hrep2 hkn2 hks2 hst2 hext2 hbx2 hbx3 f2 hst3 hst4 b3 a0 a1 a2 a3 a4 a5 a6
  subst he
  go_wp2_with fail
  rw [rounds_succ]
  go_wp2_with fail
  go_region_law (first
    | (refine step_append_lies _ (by rfl) _ _ _ (by rfl) (cb - 1) 96 i0 _ 7 80 Tryz.underlying93 hi hz0 hz1 hz2 rfl (by decide) (.slice la ns2.length lc) ns2.length _ (by rfl) ((hown.alloc _).drew)
        ⟨(W2.setCell ⟨W.heap.size,2,none⟩ (.int .i64 (j2:Int))).heap.size,0,none⟩ 1 1 [.int .u8 112,.int .i64 (j1:Int),.int .i64 (j2:Int),.int .i64 0,.int .i64 0,.string ⟨#[]⟩,.slice none 0 0] (by first | rfl | simp [Act.eval]) (by rfl) (World.news_of_block (cs:=#[.int .u8 112,.int .i64 (j1:Int),.int .i64 (j2:Int),.int .i64 0,.int .i64 0,.string ⟨#[]⟩,.slice none 0 0]) (t:=96) (fr:=(0,0)) (heap_alloc_new (W2.setCell ⟨W.heap.size,2,none⟩ (.int .i64 (j2:Int))) _)) (by simp [Value.oneCell'])
        (by decide) (by unfold maxLen;omega) (by omega) (by first | (simp;omega) | (have:=hle1;simp at this ⊢;omega)) (W2.heap.size+1) (by simp) ?_;intro g cap w6 hown6 hgrow6 hat6 hlt6
       have m0:w6.cell? ⟨cb,0,none⟩=some (.slice la ns2.length lc):=(World.cell?_of_block (a:=⟨cb,0,none⟩) (hgrow6.block cb hcb4 hne)).trans cb4
       have mf:w6.frozen? ⟨cb,0,none⟩=false:=(World.frozen?_of_block (a:=⟨cb,0,none⟩) (hgrow6.block cb hcb4 hne)).trans cf4))
  all_goals
    have P:=HS3.out.push (g:=g) (nd:=⟨112,j1,j2,0,0,[],.slice none 0 0⟩) HB4.out hgrow6 hown6 rfl (by rcases hat6 with h | h;exact .inl h;exact .inr (by rw [h];simp)) ⟨_,_,_,rfl⟩
    have PP:=Ld P
    clear P hown6 hgrow6 hat6
    go_wp2
    go_ret2
    have hk:=HK3.out.trans PP.out.2
    have hs3:=PP.out.2.strs HS3.out
    refine ⟨_,ns2 ++ [⟨112,j1,j2,0,0,[],.slice none 0 0⟩],PP.out.1,hk,hk.strs HH.out,HE3.out.trans (Ext.snoc _ _),.inl ⟨K t1 t2,r2,HT.out.join hp HC.out HT1.out (by rw [HM1.out];exact HT2.out),?_,?_,?_⟩⟩
    · rw [HT.out.size,List.length_append,HLEN2.out,HLEN1.out,List.length_singleton]
      omega
    · refine HT.out.rep _ _ _ _ t1 t2 ⟨112,j1,j2,0,0,[],.slice none 0 0⟩ (by simp) rfl rfl (by have:=HJ2.out;simp;omega) (by have:=HJ1.out;have:=HJ2.out;have:=HLEN2.out;simp;omega) ?_ ?_
      · exact RepP.keep (HKS2.out.trans hs3) (HX2.out.trans (Ext.snoc _ _)) t1 j1 HREP1.out
      · exact RepP.keep (HKS3.out.trans hs3) (Ext.snoc _ _) t2 j2 HREP2.out
    · have e1:(K t1 t2).bytes.length=t1.bytes.length+t2.bytes.length+1:=by rw [HT.out.bytes];simp
      have h1:=HM1.out
      have h2:=HM2.out
      rw [show p+(K t1 t2).bytes.length=m2 by omega]
      simp
end Go.Proofs.YtgonemalnljabaaGreatDoor
