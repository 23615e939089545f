/- TReadU TAll -/
import Derived.Test.YtcaahdjhbmmcnaaGreatDoorYA4
set_option maxRecDepth 100000
set_option maxHeartbeats 16000000
set_option linter.unusedSimpArgs false
set_option linter.unusedVariables false
namespace Go.Proofs.YtcaahdjhbmmcnaaGreatDoor
open Go.ChangeShapes Go.WideShapes Go.ChangeAt Go.RowKit
theorem kind_lett {t:Tm} (h:t.kind=116):∃ f a b,t=.lett f a b:=by
  cases t with
  | lett f a b=>exact ⟨f,a,b,rfl⟩
  | _=>exact absurd h (by simp only [Tm.kind];decide)
theorem lett_split {l r:List UInt8} {p:Nat} {f a b:Tm} (h:Tat (l.drop p) (.lett f a b) r) :
    Tat (l.drop (p+1)) f (a.bytes ++ (b.bytes ++ r))/\Tat (l.drop (p+1+f.bytes.length)) a (b.bytes ++ r)/\Tat (l.drop (p+1+f.bytes.length+a.bytes.length)) b r:=by
  have h2:l.drop (p+1)=f.bytes ++ (a.bytes ++ (b.bytes ++ r)):=by
    rw [tat_tail h (x:=f.bytes ++ (a.bytes ++ b.bytes)) rfl]
    simp
  have h3:=drop_part h2
  exact ⟨⟨h.1.1,h2⟩,⟨h.1.2.1,h3⟩,h.1.2.2,drop_part h3⟩
theorem lett_join {l r1 r2 r:List UInt8} {p:Nat} {f a b:Tm} (hp:p < l.length) (hc:l[p]=116) (h1:Tat (l.drop (p+1)) f r1) (h2:Tat (l.drop (p+1+f.bytes.length)) a r2) (h3:Tat (l.drop (p+1+f.bytes.length+a.bytes.length)) b r):Tat (l.drop p) (.lett f a b) r:=by
  refine ⟨⟨h1.1,h2.1,h3.1⟩,?_⟩
  have e:=drop_part h1.2
  have e2:=drop_part h2.2
  rw [List.drop_eq_getElem_cons hp,hc,Tm.bytes,h1.2,← e,h2.2,← e2,h3.2]
  simp
theorem lett_no1 {l:List UInt8} {p:Nat} (hp:p < l.length) (hc:l[p]=116) (h:∀ t r,¬ Tat (l.drop (p+1)) t r):∀ t r,¬ Tat (l.drop p) t r:=fun t r ht=>by
  obtain ⟨f,a,b,rfl⟩:=kind_lett ((tat_head hp ht).trans hc)
  exact h f _ (lett_split ht).1
theorem lett_no2 {l r1:List UInt8} {p:Nat} {f:Tm} (hp:p < l.length) (hc:l[p]=116) (h1:Tat (l.drop (p+1)) f r1) (h:∀ t r,¬ Tat (l.drop (p+1+f.bytes.length)) t r):∀ t r,¬ Tat (l.drop p) t r:=fun t r ht=>by
  obtain ⟨f',a,b,rfl⟩:=kind_lett ((tat_head hp ht).trans hc)
  obtain ⟨h2,h3,_⟩:=lett_split ht
  obtain ⟨rfl,_⟩:=h1.uniq h2
  exact h a _ h3
theorem lett_no3 {l r1 r2:List UInt8} {p:Nat} {f a:Tm} (hp:p < l.length) (hc:l[p]=116) (h1:Tat (l.drop (p+1)) f r1) (h2:Tat (l.drop (p+1+f.bytes.length)) a r2) (h:∀ t r,¬ Tat (l.drop (p+1+f.bytes.length+a.bytes.length)) t r):∀ t r,¬ Tat (l.drop p) t r:=fun t r ht=>by
  obtain ⟨f',a',b,rfl⟩:=kind_lett ((tat_head hp ht).trans hc)
  obtain ⟨h3,h4,h5⟩:=lett_split ht
  obtain ⟨rfl,_⟩:=h1.uniq h3
  obtain ⟨rfl,_⟩:=h2.uniq h4
  exact h b _ h5
theorem readThree (s:ByteArray) (p:Nat) (W:World) {v:Value} {ns:List Nd} {B cb:Nat} (h:NSt B cb W v ns) (hs:s.size<=100000) (hp:p < s.size) (hn:ns.length<=p) (hc:s[p]=116)
    (IH:∀ p',p < p'->p'<=s.size->∀ (W:World) (v:Value) (ns:List Nd),NSt B cb W v ns->ns.length<=p'->Calls Tryz.prog 90 #[.string s,.int .i64 (p':Int),.pointer (some ⟨cb,0,none⟩)] W (ReadPost s.data.toList p' B cb W v ns)) :
    Calls Tryz.prog 90 #[.string s,.int .i64 (p:Int),.pointer (some ⟨cb,0,none⟩)] W (ReadPost s.data.toList p B cb W v ns):=by
  have hls:Hid (s.data.toList.length=s.size):=rfl
  have HIH:=Ld IH
  clear IH
  have HC:Hid (s.data.toList[p]'hp=116):=hc
  have e0:((s[p].toNat:Int) == 64)=false:=ne_byte (d:=64) (by rw [hc];decide)
  have e00:((s[p].toNat:Int) == 108)=false:=ne_byte (d:=108) (by rw [hc];decide)
  have e000:((s[p].toNat:Int) == 112)=false:=ne_byte (d:=112) (by rw [hc];decide)
  have e1:((s[p].toNat:Int) == 116)=true:=is_byte hc
  have e9:(s[p].toNat:Int)=116:=by rw [hc];rfl
  have d1:decide ((s.size:Int)<=(p:Int))=false:=dF (by omega)
  have d1n:decide (s.size<=p)=false:=dF (by omega)
  have q1:=zn p
  have q2:(p:Int) < (s.size:Int):=by omega
  clear hc
  have HH:=Ld h
  have zB:=h.lt
  have zL:=h.le
  have hcb:W.heap.size≠cb:=by omega
  have hv0:v.ownBlock≠some W.heap.size:=fun e=>by have:=(h.row.lt _ e).2;omega
  have hb0:=(bR W.heap.size W).alloc (nR _) (.cells #[.int .u8 116,.int .i64 0,.int .i64 0,.int .i64 0,.int .i64 0,.string ⟨#[]⟩,.slice none 0 0] 94)
  have hst0:=h.below hb0
  have hbx0:NBox W.heap.size (W.alloc (.cells #[.int .u8 116,.int .i64 0,.int .i64 0,.int .i64 0,.int .i64 0,.string ⟨#[]⟩,.slice none 0 0] 94)) 116 0 0 0:=heap_alloc_new W _
  have K0:=KeepN.below (B:=B) (cb:=cb) (v:=v) hb0
  have f1:=HIH.out (p+1) (by omega) (by omega) _ v ns hst0 (by omega)
  rw [show ((p+1:Nat):Int)=(p:Int)+1 by omega] at f1
  have F1:=Ld f1
  clear f1 h hb0
  obtain ⟨n0,n1,n2,n3,n4,n5,n6⟩:=hbx0.cells
  have HK0:=Ld K0
  have HBX0:=Ld hbx0
  clear K0 hbx0
  go_enter Tryz.func90,Tryz.ntmps90
  go_wp2_with fail
  refine wp_loop_rounds 4 ?_
  rw [rounds_succ]
  go_wp2_with fail
  (with_reducible refine F1.out.mono ?_);rintro e W1 ⟨v1,ns1,hst1,hkn1,hks1,hext1,(⟨t1,r1,ht1,hlen1,hrep1,he⟩ | ⟨hno,rfl⟩)⟩
  rotate_left
  · have HN:=Ld (lett_no1 hp HC.out hno)
    have HK:=Ld (HK0.out.trans hkn1)
    have HS1:=Ld hst1
    have HE:=Ld hext1
    clear hno hst1 hkn1 hks1 hext1 hst0
    go_wp2
    go_ret2
    exact ⟨v1,ns1,HS1.out,HK.out,HK.out.strs HH.out,HE.out,.inr ⟨HN.out,rfl⟩⟩
  have hsz1:=t1.size_pos
  obtain ⟨j1,hj1⟩:∃ j,ns1.length=j+1:=⟨ns1.length - 1,by omega⟩
  have hln1:=congrArg List.length ht1.2
  rw [lA,List.length_drop,hls.out] at hln1
  have hsl1:=t1.size_le
  rw [show ((ns1.length:Int) - 1)=(j1:Int) by omega] at he
  obtain ⟨m1,hm1⟩:∃ m,p+1+t1.bytes.length=m:=⟨_,rfl⟩
  rw [hm1] at he
  have hm1s:m1<=s.size:=by omega
  have hm1n:ns1.length<=m1:=by omega
  have hm1p:p < m1:=by omega
  have dm1:decide ((m1:Int) < 0)=false:=dF (by omega)
  have HM1:=Ld hm1
  have HLEN1:=Ld hlen1
  have HT1:=Ld ht1
  rw [show ns1.length - 1=j1 by omega] at hrep1
  have HREP1:=Ld hrep1
  have HJ1:=Ld hj1
  obtain ⟨hbx1,ho1⟩:=hkn1.nbox HBX0.out hcb hv0
  have HBX1:=Ld hbx1
  have HB1':=Ld (hbx1.set1 j1)
  have HS1:=Ld (hst1.setOther (i:=1) hcb ho1 (.int .i64 (j1:Int)))
  have HK1:=Ld ((HK0.out.trans hkn1).setOther (i:=1) (nR _) (.int .i64 (j1:Int)))
  have HE1:=Ld hext1
  have HKS1:=Ld (KeepS.set (B:=B) (i:=1) hbx1 (.int .i64 (j1:Int)))
  obtain ⟨a0,a1,a2,a3,a4,a5,a6⟩:=hbx1.cells
  have b1:=hbx1.frozen 1
  have f2:=Ld (HIH.out m1 hm1p hm1s _ v1 ns1 HS1.out hm1n)
  clear hsz1 hj1 hln1 hsl1 hm1 hlen1 ht1 hrep1 hkn1 hks1 hst1 hext1 hst0 n0 n1 n2 n3 n4 n5 n6 F1 hbx1
  subst he
  go_wp2_with fail
  rw [rounds_succ]
  go_wp2_with fail
  (with_reducible refine f2.out.mono ?_);rintro e W2 ⟨v2,ns2,hst2,hkn2,hks2,hext2,(⟨t2,r2,ht2,hlen2,hrep2,he⟩ | ⟨hno,rfl⟩)⟩
  rotate_left
  · have HN:=Ld (lett_no2 hp HC.out HT1.out (by rw [HM1.out];exact hno))
    have HK:=Ld (HK1.out.trans hkn2)
    have HS2:=Ld hst2
    have HE:=Ld (HE1.out.trans hext2)
    clear hno hst2 hkn2 hks2 hext2
    go_wp2
    go_ret2
    exact ⟨v2,ns2,HS2.out,HK.out,HK.out.strs HH.out,HE.out,.inr ⟨HN.out,rfl⟩⟩
  have hsz2:=t2.size_pos
  obtain ⟨j2,hj2⟩:∃ j,ns2.length=j+1:=⟨ns2.length - 1,by omega⟩
  have hln2:=congrArg List.length ht2.2
  rw [lA,List.length_drop,hls.out] at hln2
  have hsl2:=t2.size_le
  rw [show ((ns2.length:Int) - 1)=(j2:Int) by omega] at he
  obtain ⟨m2,hm2⟩:∃ m,m1+t2.bytes.length=m:=⟨_,rfl⟩
  rw [hm2] at he
  have hm2s:m2<=s.size:=by omega
  have hm2n:ns2.length<=m2:=by omega
  have dm2:decide ((m2:Int) < 0)=false:=dF (by omega)
  have HM2:=Ld hm2
  have HLEN2:=Ld hlen2
  have HT2:=Ld ht2
  rw [show ns2.length - 1=j2 by omega] at hrep2
  have HREP2:=Ld hrep2
  have HJ2:=Ld hj2
  obtain ⟨hbx2,ho2⟩:=hkn2.nbox HB1'.out hcb ho1
  have HB2':=Ld (hbx2.set2 j2)
  have HS2:=Ld (hst2.setOther (i:=2) hcb ho2 (.int .i64 (j2:Int)))
  have HK2:=Ld ((HK1.out.trans hkn2).setOther (i:=2) (nR _) (.int .i64 (j2:Int)))
  have HE2:=Ld (HE1.out.trans hext2)
  have HKS2:=Ld ((HKS1.out.trans hks2).trans (KeepS.set (B:=B) (i:=2) hbx2 (.int .i64 (j2:Int))))
  have HKS3:=Ld (KeepS.set (B:=B) (i:=2) hbx2 (.int .i64 (j2:Int)))
  have HX2:=Ld hext2
  obtain ⟨a0',a1',a2',a3',a4',a5',a6'⟩:=hbx2.cells
  have b2:=hbx2.frozen 2
  have hm2p:p < m2:=by have:=HM1.out;omega
  have f3:=Ld (HIH.out m2 hm2p hm2s _ v2 ns2 HS2.out hm2n)
  clear hsz2 hj2 hln2 hsl2 hm2 hlen2 ht2 hrep2 hkn2 hks2 hst2 hext2 hbx2 f2 a0 a1 a2 a3 a4 a5 a6
  subst he
  go_wp2_with fail
  rw [rounds_succ]
  go_wp2_with fail
  (with_reducible refine f3.out.mono ?_);rintro e W3 ⟨v3,ns3,hst3,hkn3,hks3,hext3,(⟨t3,r3,ht3,hlen3,hrep3,he⟩ | ⟨hno,rfl⟩)⟩
  rotate_left
  · have HN:=Ld (lett_no3 hp HC.out HT1.out (by rw [HM1.out];exact HT2.out) (by rw [HM1.out,HM2.out];exact hno))
    have HK:=Ld (HK2.out.trans hkn3)
    have HS3:=Ld hst3
    have HE:=Ld (HE2.out.trans hext3)
    clear hno hst3 hkn3 hks3 hext3
    go_wp2
    go_ret2
    exact ⟨v3,ns3,HS3.out,HK.out,HK.out.strs HH.out,HE.out,.inr ⟨HN.out,rfl⟩⟩
  have hsz3:=t3.size_pos
  obtain ⟨j3,hj3⟩:∃ j,ns3.length=j+1:=⟨ns3.length - 1,by omega⟩
  have hln3:=congrArg List.length ht3.2
  rw [lA,List.length_drop,hls.out] at hln3
  have hsl3:=t3.size_le
  rw [show ((ns3.length:Int) - 1)=(j3:Int) by omega] at he
  obtain ⟨m3,hm3⟩:∃ m,m2+t3.bytes.length=m:=⟨_,rfl⟩
  rw [hm3] at he
  have hm3s:m3<=s.size:=by omega
  have hm3n:ns3.length<=m3:=by omega
  have dm3:decide ((m3:Int) < 0)=false:=dF (by omega)
  have HM3:=Ld hm3
  have HLEN3:=Ld hlen3
  have HJ3:=Ld hj3
  have HT3:=Ld ht3
  rw [show ns3.length - 1=j3 by omega] at hrep3
  have HREP3:=Ld hrep3
  obtain ⟨hbx3,ho3⟩:=hkn3.nbox HB2'.out hcb ho2
  have hbx4:=hbx3.set3 j3
  have hst4:=hst3.setOther (i:=3) hcb ho3 (.int .i64 (j3:Int))
  have HK4:=Ld ((HK2.out.trans hkn3).setOther (i:=3) (nR _) (.int .i64 (j3:Int)))
  have HE4:=Ld (HE2.out.trans hext3)
  have HKS4:=Ld (KeepS.set (B:=B) (i:=3) hbx3 (.int .i64 (j3:Int)))
  have HKA:=Ld ((HKS2.out.trans hks3).trans HKS4.out)
  have HKB:=Ld ((HKS3.out.trans hks3).trans HKS4.out)
  have HX3:=Ld hext3
  obtain ⟨c0,c1,c2,c3,c4,c5,c6⟩:=hbx3.cells
  have b4:=hbx3.frozen 3
  have hsz:W.heap.size < (W3.setCell ⟨W.heap.size,3,none⟩ (.int .i64 (j3:Int))).heap.size:=(Array.getElem?_eq_some_iff.1 hbx4).1
  obtain ⟨g0,g1,g2,g3,g4,g5,g6⟩:=hbx4.cells
  obtain ⟨i0,hi,hz0,hz1,hz2⟩:=info_parts infoNode
  obtain ⟨la,lc,rfl⟩:=own_sliceN hst4.row
  have b3:=(bR (W3.setCell ⟨W.heap.size,3,none⟩ (.int .i64 (j3:Int))).heap.size (W3.setCell ⟨W.heap.size,3,none⟩ (.int .i64 (j3:Int)))).alloc (nR _) (.cells #[.int .u8 116,.int .i64 (j1:Int),.int .i64 (j2:Int),.int .i64 (j3:Int),.int .i64 0,.string ⟨#[]⟩,.slice none 0 0] 94)
  have hst5:=hst4.below b3
  have k0:=(b3.cell (p:=⟨W.heap.size,0,none⟩) hsz).trans g0
  have k1:=(b3.cell (p:=⟨W.heap.size,1,none⟩) hsz).trans g1
  have k2:=(b3.cell (p:=⟨W.heap.size,2,none⟩) hsz).trans g2
  have k3:=(b3.cell (p:=⟨W.heap.size,3,none⟩) hsz).trans g3
  have k4:=(b3.cell (p:=⟨W.heap.size,4,none⟩) hsz).trans g4
  have k5:=(b3.cell (p:=⟨W.heap.size,5,none⟩) hsz).trans g5
  have k6:=(b3.cell (p:=⟨W.heap.size,6,none⟩) hsz).trans g6
  have cb3:=hst4.cell
  have cb4:=hst5.cell
  have cf3:=hst4.froz
  have cf4:=hst5.froz
  have hown:=hst4.row
  have hle1:=hst4.le
  have hnl:ns3.length<=100000:=by omega
  have hcb4:cb < ((W3.setCell ⟨W.heap.size,3,none⟩ (.int .i64 (j3:Int))).alloc (.cells #[.int .u8 116,.int .i64 (j1:Int),.int .i64 (j2:Int),.int .i64 (j3:Int),.int .i64 0,.string ⟨#[]⟩,.slice none 0 0] 94)).drew.heap.size:=Nat.lt_of_lt_of_le hst5.lt hst5.le
  have hne:some cb≠(Value.slice la ns3.length lc).ownBlock:=fun e=>hst4.ne e.symm
  have HS4:=Ld hst4
  have HB4:Hid (Below (W3.setCell ⟨W.heap.size,3,none⟩ (.int .i64 (j3:Int))).heap.size (W3.setCell ⟨W.heap.size,3,none⟩ (.int .i64 (j3:Int))) ((W3.setCell ⟨W.heap.size,3,none⟩ (.int .i64 (j3:Int))).alloc (.cells #[.int .u8 116,.int .i64 (j1:Int),.int .i64 (j2:Int),.int .i64 (j3:Int),.int .i64 0,.string ⟨#[]⟩,.slice none 0 0] 94)).drew):=b3.drew
  clear hsz3 hj3 hln3 hsl3 hm3 hlen3 ht3 hrep3 hkn3 hks3 hst3 hext3 hbx3 hbx4 f3 hst4 hst5 b3
  subst he
  go_wp2_with fail
  rw [rounds_succ]
  go_wp2_with fail
  go_region_law (first
    | (refine step_append_lies _ (by rfl) _ _ _ (by rfl) (cb - 1) 94 i0 _ 7 80 Tryz.underlying91 hi hz0 hz1 hz2 rfl (by decide) (.slice la ns3.length lc) ns3.length _ (by rfl) ((hown.alloc _).drew)
        ⟨(W3.setCell ⟨W.heap.size,3,none⟩ (.int .i64 (j3:Int))).heap.size,0,none⟩ 1 1 [.int .u8 116,.int .i64 (j1:Int),.int .i64 (j2:Int),.int .i64 (j3:Int),.int .i64 0,.string ⟨#[]⟩,.slice none 0 0] (by first | rfl | simp [Act.eval]) (by rfl) (World.news_of_block (cs:=#[.int .u8 116,.int .i64 (j1:Int),.int .i64 (j2:Int),.int .i64 (j3:Int),.int .i64 0,.string ⟨#[]⟩,.slice none 0 0]) (t:=94) (fr:=(0,0)) (heap_alloc_new (W3.setCell ⟨W.heap.size,3,none⟩ (.int .i64 (j3:Int))) _)) (by simp [Value.oneCell'])
        (by decide) (by unfold maxLen;omega) (by omega) (by first | (simp;omega) | (have:=hle1;simp at this |-;omega)) (W3.heap.size+1) (by simp) ?_;intro g cap w6 hown6 hgrow6 hat6 hlt6
       have m0:w6.cell? ⟨cb,0,none⟩=some (.slice la ns3.length lc):=(World.cell?_of_block (a:=⟨cb,0,none⟩) (hgrow6.block cb hcb4 hne)).trans cb4
       have mf:w6.frozen? ⟨cb,0,none⟩=false:=(World.frozen?_of_block (a:=⟨cb,0,none⟩) (hgrow6.block cb hcb4 hne)).trans cf4))
  all_goals
    have P:=HS4.out.push (g:=g) (nd:=⟨116,j1,j2,j3,0,[],.slice none 0 0⟩) HB4.out hgrow6 hown6 rfl (by rcases hat6 with h | h;exact .inl h;exact .inr (by rw [h];simp)) ⟨_,_,_,rfl⟩
    have PP:=Ld P
    clear P hown6 hgrow6 hat6
    go_wp2
    go_ret2
    have hk:=HK4.out.trans PP.out.2
    have hs3:=PP.out.2.strs HS4.out
    refine ⟨_,ns3 ++ [⟨116,j1,j2,j3,0,[],.slice none 0 0⟩],PP.out.1,hk,hk.strs HH.out,HE4.out.trans (Ext.snoc _ _),.inl ⟨.lett t1 t2 t3,r3,lett_join hp HC.out HT1.out (by rw [HM1.out];exact HT2.out) (by rw [HM1.out,HM2.out];exact HT3.out),?_,?_,?_⟩⟩
    · rw [Tm.size,lA,HLEN3.out,HLEN2.out,HLEN1.out,List.length_singleton]
      omega
    · have P1:=RepP.keep (HKA.out.trans hs3) ((HX2.out.trans HX3.out).trans (Ext.snoc _ ⟨116,j1,j2,j3,0,[],.slice none 0 0⟩)) t1 j1 HREP1.out
      have P2:=RepP.keep (HKB.out.trans hs3) (HX3.out.trans (Ext.snoc _ ⟨116,j1,j2,j3,0,[],.slice none 0 0⟩)) t2 j2 HREP2.out
      have P3:=RepP.keep (HKS4.out.trans hs3) (Ext.snoc _ ⟨116,j1,j2,j3,0,[],.slice none 0 0⟩) t3 j3 HREP3.out
      have l1:=HLEN2.out
      have l2:=HLEN3.out
      have l3:=HJ1.out
      have l4:=HJ2.out
      have l5:=HJ3.out
      have hkk:(ns3 ++ [(⟨116,j1,j2,j3,0,[],.slice none 0 0⟩:Nd)]).length - 1=ns3.length:=by simp
      rw [hkk]
      have hget:(ns3 ++ [(⟨116,j1,j2,j3,0,[],.slice none 0 0⟩:Nd)])[ns3.length]?=some ⟨116,j1,j2,j3,0,[],.slice none 0 0⟩:=by simp
      exact ⟨⟨_,hget,rfl,P1.1,P2.1,P3.1⟩,⟨_,hget,rfl,show j3+1=ns3.length by omega,show j2+t3.size+1=ns3.length by omega,show j1+t2.size+t3.size+1=ns3.length by omega,P1.2,P2.2,P3.2⟩⟩
    · have e1:(Tm.lett t1 t2 t3).bytes.length=t1.bytes.length+t2.bytes.length+t3.bytes.length+1:=by simp [Tm.bytes];omega
      have h1:=HM1.out
      have h2:=HM2.out
      have h3:=HM3.out
      rw [show p+(Tm.lett t1 t2 t3).bytes.length=m3 by omega]
      simp
theorem specL06Read (s:ByteArray) (hs:s.size<=100000) {B cb:Nat}:∀ (n p:Nat),s.size - p<=n->p<=s.size->∀ (W:World) (v:Value) (ns:List Nd),NSt B cb W v ns->ns.length<=p ->
  Calls Tryz.prog 90 #[.string s,.int .i64 (p:Int),.pointer (some ⟨cb,0,none⟩)] W (ReadPost s.data.toList p B cb W v ns):=by
 intro n
 induction n with
 | zero=>intro p h1 h2 W v ns h h3;exact readEnd s p W h (by omega)
 | succ n ih =>
  intro p h1 h2 W v ns h h3;by_cases hp:p < s.size
  ·have IH:∀ p',p < p'->p'<=s.size->∀ (W:World) (v:Value) (ns:List Nd),NSt B cb W v ns->ns.length<=p'->Calls Tryz.prog 90 #[.string s,.int .i64 (p':Int),.pointer (some ⟨cb,0,none⟩)] W (ReadPost s.data.toList p' B cb W v ns):=fun p' hp' hs' W v ns h h3=>ih p' (by omega) hs' W v ns h h3;by_cases c1:s[p]=64
   ·exact readTwoQ (b1:=true) (b2:=false) (b3:=false) (by decide) (by decide) (by decide) (by decide) (.inl rfl) twoApp s p W h hs hp h3 c1 IH
   by_cases c2:s[p]=108
   ·exact readTwoQ (b1:=false) (b2:=true) (b3:=false) (by decide) (by decide) (by decide) (by decide) (.inr (.inl ⟨rfl,rfl⟩)) twoLam s p W h hs hp h3 c2 IH
   by_cases c3:s[p]=112
   ·exact readTwoQ (b1:=false) (b2:=false) (b3:=true) (by decide) (by decide) (by decide) (by decide) (.inr (.inr ⟨rfl,rfl,rfl⟩)) twoPi s p W h hs hp h3 c3 IH
   by_cases c4:s[p]=116
   ·exact readThree s p W h hs hp h3 c4 IH
   exact readLeaf s p W h hs hp h3 c1 c2 c3 c4
  ·exact readEnd s p W h (by omega)
def AllPost (l:List UInt8) (w:World) (e:Ending) (w':World):Prop :=
 ∃ v ns,e=.returned v/\w'.ownsRow w.heap.size 94 7 v ns.length (flatN ns)/\Below w.heap.size w w'/\(∀ nd∈ns,∃ a n c,nd.lv=.slice a n c) /\
  ((∃ t,IsTm l t/\ns.length=t.size/\Rep w' w.heap.size ns (ns.length - 1) t)\/((∀ t,¬ IsTm l t)/\ns=[]))
theorem isTm_tat {l:List UInt8} (hl:l.length<=2000) (t:Tm):IsTm l t↔Tat l t []:=by
 constructor
 ·rintro ⟨h1,h2,_⟩;exact ⟨h1,by rw [h2];simp⟩
 ·rintro ⟨h1,h2⟩;exact ⟨h1,by rw [h2];simp,hl⟩
theorem Rep.weaken {W:World} {B B':Nat} {ns:List Nd} (hb:B'<=B):∀ (t:Tm) (k:Nat),Rep W B ns k t->Rep W B' ns k t
 | .var _,_,⟨nd,h1,h2⟩=>⟨nd,h1,h2⟩
 | .sort _,_,⟨nd,h1,h2⟩=>⟨nd,h1,h2⟩
 | .const _ _,_,⟨nd,h1,h2⟩=>⟨nd,h1,h2.weaken hb⟩
 | .app f a,_,⟨nd,h1,h2,h3,h4⟩=>⟨nd,h1,h2,Rep.weaken hb f _ h3,Rep.weaken hb a _ h4⟩
 | .lam f a,_,⟨nd,h1,h2,h3,h4⟩=>⟨nd,h1,h2,Rep.weaken hb f _ h3,Rep.weaken hb a _ h4⟩
 | .pi f a,_,⟨nd,h1,h2,h3,h4⟩=>⟨nd,h1,h2,Rep.weaken hb f _ h3,Rep.weaken hb a _ h4⟩
 | .lett f a b,_,⟨nd,h1,h2,h3,h4,h5⟩=>⟨nd,h1,h2,Rep.weaken hb f _ h3,Rep.weaken hb a _ h4,Rep.weaken hb b _ h5⟩
theorem KeepN.belowOf {B cb:Nat} {w0 W W':World} {v v':Value} (h:KeepN B cb W v W' v') (hb:Below w0.heap.size w0 W) (hcb:w0.heap.size<=cb) (hv:∀ g,v.ownBlock=some g->w0.heap.size<=g):Below w0.heap.size w0 W' := ⟨h.os.trans hb.os,h.tape.trans hb.tape,h.output.trans hb.output,Nat.le_trans hb.size h.size,fun i hi=>(h.block i (Nat.lt_of_lt_of_le hi hb.size) (by omega) (fun e=>by have:=hv i e;omega)).trans (hb.block i hi)⟩
def AllPostP (l:List UInt8) (w:World) (e:Ending) (w':World):Prop :=
 ∃ v ns,e=.returned v/\w'.ownsRow w.heap.size 94 7 v ns.length (flatN ns)/\Below w.heap.size w w'/\(∀ nd∈ns,∃ a n c,nd.lv=.slice a n c) /\
  ((∃ t,IsTm l t/\ns.length=t.size/\RepP w' w.heap.size ns (ns.length - 1) t)\/((∀ t,¬ IsTm l t)/\ns=[]))
theorem specL06AllP (s:ByteArray) (w:World) (hs:s.size<=maxLen) :
  Calls Tryz.prog 59 #[.string s] w (AllPostP s.data.toList w):=by
 have hls:Hid (s.data.toList.length=s.size):=rfl;unfold maxLen at hs;have r0:=World.ownsRow_lit (base:=w.heap.size) (e:=94) (size:=7) w #[] 0 (nR _) (by decide) (by simp);have b0:=(bR w.heap.size w).alloc (nR _) (.cells #[] 94);by_cases h1:s.size<=2000;rotate_left
 ·have HN:Hid (∀ t,¬ IsTm s.data.toList t):=fun t ht=>by have:=ht.2.2;rw [hls.out] at this;omega
  have d1:decide ((2000:Int) < (s.size:Int))=true:=dT (by omega);have R0:=Ld r0;have B0:=Ld b0;clear r0 b0;go_enter Tryz.func59,Tryz.ntmps59;go_wp2;go_ret;exact ⟨_,[],rfl,R0.out.alloc _,B0.out.alloc (by simp) _,fun nd h=>absurd h (by simp),.inr ⟨HN.out,rfl⟩⟩
 have d1:decide ((2000:Int) < (s.size:Int))=false:=dF (by omega);have hcell:((w.alloc (.cells #[] 94)).alloc (.cells #[.slice (some ⟨w.heap.size,0,none⟩) 0 0] 91)).cell? ⟨w.heap.size+1,0,none⟩=some (.slice (some ⟨w.heap.size,0,none⟩) 0 0):=by simp [go_sem]
 have hfroz:((w.alloc (.cells #[] 94)).alloc (.cells #[.slice (some ⟨w.heap.size,0,none⟩) 0 0] 91)).frozen? ⟨w.heap.size+1,0,none⟩=false:=by simp
 have bW:=b0.alloc b0.size (.cells #[.slice (some ⟨w.heap.size,0,none⟩) 0 0] 91);have hst:NSt (w.heap.size+2) (w.heap.size+1) ((w.alloc (.cells #[] 94)).alloc (.cells #[.slice (some ⟨w.heap.size,0,none⟩) 0 0] 91)) (.slice (some ⟨w.heap.size,0,none⟩) 0 0) [] := ⟨hcell,hfroz,by rw [Nat.add_sub_cancel];exact r0.alloc _,by simp [Value.ownBlock],fun nd h=>absurd h (by simp),by omega,by simp⟩;have f1:=Ld (specL06Read s (by omega) s.size 0 (by omega) (Nat.zero_le _) _ _ [] hst (nR _));rw [show ((0:Nat):Int)=0 from rfl] at f1;have BW:=Ld bW;clear hcell hfroz bW hst r0 b0;go_enter Tryz.func59,Tryz.ntmps59;go_wp2_with fail;(with_reducible refine f1.out.mono ?_);rintro e W1 ⟨v1,ns1,hst1,hkn1,hks1,hext1,(⟨t,r,ht,hlen,hrep,rfl⟩ | ⟨hno,rfl⟩)⟩
 ·have hsz:=t.size_pos;rw [List.length_nil,Nat.zero_add] at hlen;have hB:=hkn1.belowOf BW.out (by omega) (fun g hg=>by simp [Value.ownBlock] at hg;omega);have hrow:=hst1.row;rw [Nat.add_sub_cancel] at hrow;obtain ⟨la,lc,rfl⟩:=own_sliceN hrow;have cc:=hst1.cell;have hll:=congrArg List.length ht.2;rw [List.drop_zero,hls.out,lA] at hll;have dk:decide ((ns1.length:Int) - 1 < 0)=false:=dF (by omega);have hnl:ns1.length<=100000:=(by have:=t.size_le;omega);have HR:=Ld hrow;have HB:=Ld hB;have HSL:=Ld hst1.sl;have HT:=Ld ht;have HL:=Ld hlen;have HP:=Ld (show RepP W1 w.heap.size ns1 (ns1.length - 1) t from ⟨hrep.1.weaken (B':=w.heap.size) (by omega),hrep.2⟩);rw [Nat.zero_add];clear hrow hB ht hlen hrep hst1 hkn1 hks1 hext1 f1;by_cases heq:t.bytes.length=s.size
  ·have HI:Hid (IsTm s.data.toList t):=(isTm_tat (by rw [hls.out];exact h1) t).2 (by
    have h2:=HT.out;have hr:r=[]:=List.length_eq_zero_iff.1 (by omega);rw [hr,List.drop_zero] at h2;exact h2)
   have de:(((t.bytes.length:Nat):Int) == (s.size:Int))=true:=(by simp [heq]);have de':(((t.bytes.length:Nat):Int) != (s.size:Int))=false:=(by rw [bne,de];rfl);clear heq hll;go_wp2;go_ret;exact ⟨_,ns1,rfl,HR.out,HB.out,HSL.out,.inl ⟨t,HI.out,HL.out,HP.out⟩⟩
  ·have HN:Hid (∀ t,¬ IsTm s.data.toList t):=fun u hu=>by
    have h2:=(isTm_tat (by rw [hls.out];exact h1) u).1 hu;have h3:=HT.out;rw [List.drop_zero] at h3;obtain ⟨rfl,rfl⟩:=h3.uniq h2;rw [List.length_nil] at hll;exact heq (by omega)
   have de:(((t.bytes.length:Nat):Int) == (s.size:Int))=false:=beq_eq_false_iff_ne.2 (by omega);have de':(((t.bytes.length:Nat):Int) != (s.size:Int))=true:=(by rw [bne,de];rfl);clear heq hll;go_wp2;go_ret;exact ⟨_,[],rfl,World.ownsRow_lit (base:=w.heap.size) (e:=94) (size:=7) W1 #[] 0 HB.out.size (by decide) (by simp),HB.out.alloc HB.out.size _,fun nd h=>absurd h (by simp),.inr ⟨HN.out,rfl⟩⟩
 ·have hB:=hkn1.belowOf BW.out (by omega) (fun g hg=>by simp [Value.ownBlock] at hg;omega);have HB:=Ld hB;have HN:Hid (∀ t,¬ IsTm s.data.toList t):=fun u hu=>by
   have h2:=(isTm_tat (by rw [hls.out];exact h1) u).1 hu;exact hno u [] (by rw [List.drop_zero];exact h2)
  clear hB hno hst1 hkn1 hks1 hext1 f1;go_wp2;go_ret;exact ⟨_,[],rfl,World.ownsRow_lit (base:=w.heap.size) (e:=94) (size:=7) W1 #[] 0 HB.out.size (by decide) (by simp),HB.out.alloc HB.out.size _,fun nd h=>absurd h (by simp),.inr ⟨HN.out,rfl⟩⟩
theorem specL06All (s:ByteArray) (w:World) (hs:s.size<=maxLen) :
  Calls Tryz.prog 59 #[.string s] w (AllPost s.data.toList w) :=
 (specL06AllP s w hs).mono fun _ _ ⟨v,ns,h1,h2,h3,h4,h5⟩=>⟨v,ns,h1,h2,h3,h4,h5.imp (fun ⟨t,a,b,c⟩=>⟨t,a,b,c.1⟩) id⟩
end Go.Proofs.YtcaahdjhbmmcnaaGreatDoor
