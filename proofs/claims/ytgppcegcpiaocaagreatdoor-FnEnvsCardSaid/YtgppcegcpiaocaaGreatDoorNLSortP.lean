/- LSortP -/
import Derived.OneCell
import Derived.Test.YtgppcegcpiaocaaGreatDoorNZGOr
import Derived.Test.YtgppcegcpiaocaaGreatDoorNG1
set_option maxRecDepth 100000
set_option maxHeartbeats 16000000
set_option linter.unusedSimpArgs false
set_option linter.unusedVariables false
namespace Go.Proofs.YtgppcegcpiaocaaGreatDoor.L
open Go.ChangeShapes Go.WideShapes Go.ChangeAt Go.RowKit
def dK (w:World) (v:Value) (l:List Lbl):Prop :=
 ∃ b off cap:Nat,v=.slice (some ⟨b,off,none⟩) l.length cap/\l.length<=cap/\cap<=maxLen/\b<w.heap.size/\∀ j (h:j<l.length),w.cell? ⟨b,off+j*2,none⟩=some (.int .i64 l[j].1)/\w.cell? ⟨b,off+j*2+1,none⟩=some (sv l[j].2)
theorem dK.below{w w':World}{v:Value}{l:List Lbl}(h:dK w v l)(hb:Below w.heap.size w w'):dK w' v l:=by
 obtain⟨b,off,cap,h1,h2,h3,h4,h5⟩:=h;refine⟨b,off,cap,h1,h2,h3,Nat.lt_of_lt_of_le h4 hb.size,fun j hj=>?_⟩;rw[hb.cell (p:=⟨b,off+j*2,none⟩) h4,hb.cell (p:=⟨b,off+j*2+1,none⟩) h4];exact h5 j hj
theorem dK.take{w:World}{b off cap:Nat}{l:List Lbl}(h:dK w (.slice (some ⟨b,off,none⟩) l.length cap) l)(k:Nat)(hk:k<=l.length):dK w (.slice (some ⟨b,off,none⟩) k cap) (l.take k):=by
 obtain⟨b',off',cap',h1,h2,h3,h4,h5⟩:=h;simp only[Value.slice.injEq,Option.some.injEq,Addr.mk.injEq,and_true,true_and] at h1;obtain⟨⟨rfl,rfl⟩,rfl⟩:=h1;have e:(l.take k).length=k:=by simp;omega
 refine⟨b,off,cap,by rw[e],by omega,h3,h4,fun j hj=>?_⟩;rw[e] at hj;have:=h5 j (by omega);rw[List.getElem_take];exact this
theorem dK.drop{w:World}{b off cap:Nat}{l:List Lbl}(h:dK w (.slice (some ⟨b,off,none⟩) l.length cap) l)(k:Nat)(hk:k<=l.length):dK w (.slice (some ⟨b,off+k*2,none⟩) (l.length - k) (cap - k)) (l.drop k):=by
 obtain⟨b',off',cap',h1,h2,h3,h4,h5⟩:=h;simp only[Value.slice.injEq,Option.some.injEq,Addr.mk.injEq,and_true,true_and] at h1;obtain⟨⟨rfl,rfl⟩,rfl⟩:=h1;have e:(l.drop k).length=l.length - k:=by simp
 refine⟨b,off+k*2,cap - k,by rw[e],by omega,by omega,h4,fun j hj=>?_⟩;rw[e] at hj;have:=h5 (k+j) (by omega);rw[List.getElem_drop,show off+k*2+j*2=off+(k+j)*2 by omega];exact this
theorem zW0{l:List Lbl}(h:0<l.length):0<(srt ordL l).length:=by
 obtain⟨_,s2,_⟩:=srt_spec ordL l.length l (nR _);have:=(s2 l[0]).2 (List.getElem_mem h);exact List.length_pos_of_mem this
theorem yW9(l:List Lbl):∀ u∈flat l,u.oneCell'=true:=by
 intro u hu;obtain⟨x,_,hx⟩:=List.mem_flatMap.1 hu;simp only[oL,List.mem_cons,List.mem_nil_iff,or_false] at hx;rcases hx with rfl|rfl<;>rfl
theorem yK6{w:World}{base base':Nat}{e:TypeId}{size:Nat}{v:Value}{n:Nat}{xs:List Value}(h:w.ownsRow base e size v n xs)(hb:base'<=base):w.ownsRow base' e size v n xs:=by
 refine⟨h.1,?_⟩;rcases h.2 with h|⟨g,cap,cur,h1,h2,h3⟩
 ·exact .inl h
 ·exact .inr ⟨g,cap,cur,h1,Nat.le_trans hb h2,h3⟩
theorem gC(x:Lbl):psh [] x=[x]:=by simp[psh]
theorem lQ(r:List Lbl)(x:Lbl):psh (r++[x]) x=r++[x]:=by simp[psh]
theorem nT{r:List Lbl}{z x:Lbl}(h:z≠x):psh (r++[z]) x=r++[z]++[x]:=by simp[psh,h]
theorem newsL{w:World}{b off:Nat}{l:List Lbl}(h:∀ j (h:j<l.length),w.cell? ⟨b,off+j*2,none⟩=some (.int .i64 l[j].1)/\w.cell? ⟨b,off+j*2+1,none⟩=some (sv l[j].2)) :
  ∀ j u,(flat l)[j]?=some u->w.cell? ((⟨b,off,none⟩:Addr).add j)=some u:=by
 intro j u hu;rw[add_plain];have hj:=(List.getElem?_eq_some_iff.1 hu).1;rw[oA] at hj;obtain⟨q,hq|hq⟩:∃ q,j=q*2\/j=q*2+1:=⟨j / 2,by omega⟩
 ·subst hq;rw[(qO (l:=l) (j:=q) (by omega)).1] at hu;rw[(h q (by omega)).1,hu]
 ·subst hq;rw[(qO (l:=l) (j:=q) (by omega)).2] at hu;rw[← Nat.add_assoc,(h q (by omega)).2,hu]
theorem zN7(n:Nat):∀ (l:List Lbl),l.length<=n->l.length<=2097152->∀ (w:World) (v:Value),dK w v l->Calls Tryz.prog 46 #[v] w (yU0 (srt ordL l) w):=by
 induction n using Nat.strongRecOn with
|ind n ih =>
  intro l hln hn w v hV;obtain⟨i0,hi,hz0,hz1,hz2⟩:=info_parts yO5;by_cases hsm:l.length<2
  ·obtain⟨b,off,cap,rfl,hc1,hc2,hb,hcells⟩:=hV;have HR:=Ld (sK ordL hsm);have hd:decide ((l.length:Int)<2)=true:=dT (by omega);have hcells':∀ j (h:j<l.length),(w.alloc (.cells #[] 125)).cell? ⟨b,off+j*2,none⟩=some (.int .i64 l[j].1)/\(w.alloc (.cells #[] 125)).cell? ⟨b,off+j*2+1,none⟩=some (sv l[j].2):=by
    intro j hj;have BB:=(bR w.heap.size w).alloc (nR _) (.cells #[] 125);rw[BB.cell (p:=⟨b,off+j*2,none⟩) hb,BB.cell (p:=⟨b,off+j*2+1,none⟩) hb];exact hcells j hj
   have hnews:=newsL hcells';have hfl:=oA l;clear hcells hcells' ih;go_enter Tryz.func46,Tryz.ntmps46;go_wp2_with (at_builtin;refine wpList_append_own _ rfl _ _ 38 rfl w.heap.size 125 i0 _ 2 24 Tryz.underlying38 hi hz0 hz1 hz2 rfl (by decide) _ 0 [] rfl (World.ownsRow_lit w #[] 0 (nR _) (by decide) (by simp)) ⟨b,off,none⟩ l.length cap (flat l) rfl hfl hnews (yW9 l) (by simp only[maxLen];omega) (by omega) (by simp) ?_;intro v1 w1 hown1 hgrow hat);go_ret;rw[HR.out];exact⟨_,rfl,by simpa using hown1,((bR _ _).alloc (nR _) _).grown hgrow (by simp) (fun j hj=>by cases hj;exact nR _)⟩
  ·have HR:=Ld (oS ordL hsm);obtain⟨b,off,cap,rfl,hc1,hc2,hb,_⟩:=id hV;unfold maxLen at hc2;have hd:decide ((l.length:Int)<2)=false:=dF (by omega);obtain⟨m,hm⟩:∃ m,l.length / 2=m:=⟨_,rfl⟩;rw[hm] at HR;have hq:(l.length:Int) / 2=(m:Int):=(by omega);have hm1:1<=m:=(by omega);have hm2:m<l.length:=(by omega);clear hm;have hA:=Ld (hV.take m (by omega));have hB:=Ld (hV.drop m (by omega));have e1:(l.take m).length=m:=(by simp;omega);have e2:(l.drop m).length=l.length - m:=(by simp);have f1:=Ld fun W v h=>ih m (by omega) (l.take m) (by omega) (by omega) W v h;have f2:=Ld fun W v h=>ih (l.length - m) (by omega) (l.drop m) (by omega) (by omega) W v h;have p1:=zW0 (l:=l.take m) (by omega);have p2:=zW0 (l:=l.drop m) (by omega);have s1:=(srt_spec ordL _ (l.take m) (nR _)).2.2;have s2:=(srt_spec ordL _ (l.drop m) (nR _)).2.2;rw[e1] at s1;rw[e2] at s2;clear e1 e2 hV ih;generalize srt ordL (l.take m)=A at HR f1 p1 s1;generalize srt ordL (l.drop m)=B at HR f2 p2 s2;go_enter Tryz.func46,Tryz.ntmps46;go_wp2_with fail
   (refine(f1.out _ _ hA.out).mono ?_);rintro e w1 ⟨v1,rfl,ho1,hb1⟩
   go_wp2_with fail
   (refine(f2.out _ _ (hB.out.below hb1)).mono ?_);rintro e w2 ⟨v2,rfl,ho2,hb2⟩
   have hB2:=hb1.trans (hb2.mono hb1.size);have ho1':=zA ho1 hb2;obtain⟨g1,c1,rfl,_,hg1⟩:=ho1'.form p1;obtain⟨g2,c2,rfl,_,hg2⟩:=ho2.form p2;have hzw:=hB2.size;clear ho1 hb1 hb2 hA hB f1 f2;go_wp2;go_loopw [5,6,7] (fun vo iv kv wr=>∃ (i k:Nat) (out:List Lbl) (g cp:Nat),i<=A.length/\k<=B.length/\out.length<=i+k/\iv=.int .i64 i/\kv=.int .i64 k/\vo=.slice (some ⟨g,0,none⟩) out.length cp/\wr.ownsRow w2.heap.size 125 2 (.slice (some ⟨g,0,none⟩) out.length cp) out.length (flat out)/\Below w2.heap.size w2 wr/\Hid (mrg ordL A B []=mrg ordL (A.drop i) (B.drop k) out))
    (fun _ iv kv _=>(A.length - (intOf iv).toNat)+(B.length - (intOf kv).toNat))
   case atStart=>exact⟨0,0,[],w2.heap.size,0,Nat.zero_le _,Nat.zero_le _,nR _,rfl,rfl,rfl,World.ownsRow_lit w2 #[] 0 (nR _) (by decide) (by simp),(bR _ _).alloc (nR _) _,by simp[Hid]⟩
   case round =>
    obtain⟨i,k,out,g,cp,hik,hkk,hol,rfl,rfl,rfl,hown,hbel,HS⟩:=hrel;have hl:=hown.lt;have hzz:=hbel.size;have bn:out.length+1<=4194304:=(by omega);have BA:Below w2.heap.size w2 (wr.alloc (.cells #[.int .i64 0,.string ⟨#[]⟩] 125)):=hbel.alloc hzz _;have hownA:=hown.alloc (.cells #[.int .i64 0,.string ⟨#[]⟩] 125);have hgv:(Value.slice (some ⟨g,0,none⟩) out.length cp).ownBlock≠some wr.heap.size:=by
     intro e;have:=(hl wr.heap.size e).2;omega
    have n0:(wr.alloc (.cells #[.int .i64 0,.string ⟨#[]⟩] 125)).cell? ⟨wr.heap.size,0,none⟩=some (.int .i64 0):=World.news_of_block (cs:=#[.int .i64 0,.string ⟨#[]⟩]) (t:=125) (fr:=(0,0)) (heap_alloc_new wr _) 0 _ rfl;have n1:(wr.alloc (.cells #[.int .i64 0,.string ⟨#[]⟩] 125)).cell? ⟨wr.heap.size,1,none⟩=some (.string ⟨#[]⟩):=World.news_of_block (cs:=#[.int .i64 0,.string ⟨#[]⟩]) (t:=125) (fr:=(0,0)) (heap_alloc_new wr _) 1 _ rfl;have y0:(wr.alloc (.cells #[.int .i64 0,.string ⟨#[]⟩] 125)).frozen? ⟨wr.heap.size,0,none⟩=false:=(by simp);have y1:(wr.alloc (.cells #[.int .i64 0,.string ⟨#[]⟩] 125)).frozen? ⟨wr.heap.size,1,none⟩=false:=(by simp);have hza:(wr.alloc (.cells #[.int .i64 0,.string ⟨#[]⟩] 125)).heap.size=wr.heap.size+1:=(by simp);have hownA0:=hown;clear hown;by_cases hi1:i<A.length
    ·obtain⟨fa,fb⟩:=qO hi1;have ca:=(BA.cell (p:=⟨g1,i*2,none⟩) hg1).trans ((ho1'.cellAt (i*2) (by omega)).trans fa);have cb:=(BA.cell (p:=⟨g1,i*2+1,none⟩) hg1).trans ((ho1'.cellAt (i*2+1) (by omega)).trans fb);unfold sv at cb;clear fa fb;have qa1:=zn i;have qa2:(i:Int)<(A.length:Int):=(by omega);have da:decide ((i:Int)<(A.length:Int))=true:=dT qa2;by_cases hk1:k<B.length
     ·obtain⟨fa,fb⟩:=qO hk1;have da':=(BA.cell (p:=⟨g2,k*2,none⟩) hg2).trans ((ho2.cellAt (k*2) (by omega)).trans fa);have db':=(BA.cell (p:=⟨g2,k*2+1,none⟩) hg2).trans ((ho2.cellAt (k*2+1) (by omega)).trans fb);unfold sv at db';clear fa fb;have qb1:=zn k;have qb2:(k:Int)<(B.length:Int):=(by omega);have db:decide ((B.length:Int)<=(k:Int))=false:=dF (by omega);have HML:=Ld fun (h:zI1 B[k].1 B[k].2 A[i].1 A[i].2=false)=>HS.out.trans (lS ordL (b:=B) (k:=k) out hi1 (fun _=>h));have HMR:=Ld fun (h:¬ zI1 B[k].1 B[k].2 A[i].1 A[i].2=false)=>HS.out.trans (oW ordL (a:=A) (i:=i) out hk1 (fun _=>h));have f3:=Ld fun W=>yV5 B[k].1 A[i].1 B[k].2 A[i].2 W;clear HS;generalize zI1 B[k].1 B[k].2 A[i].1 A[i].2=c at HML HMR f3;generalize A[i]=xa at ca cb HML HMR f3;generalize B[k]=xb at da' db' HML HMR f3;go_wp2_with fail;refine wp_region_held_drew (S:=fun w'=>w'.cell? ⟨g1,i*2,none⟩=some (.int .i64 xa.1)/\w'.cell? ⟨g1,i*2+1,none⟩=some (.string ⟨xa.2.toArray⟩)/\w'.cell? ⟨g2,k*2,none⟩=some (.int .i64 xb.1)/\w'.cell? ⟨g2,k*2+1,none⟩=some (.string ⟨xb.2.toArray⟩)) (by kernel_rfl) ⟨ca,cb,da',db'⟩ (fun hS0=>?_);refine qW 0 39 (.int .i64 (k:Int)) hS0 (fun W hSW=>?_) ?_
      ·(try dsimp only at hSW);(try obtain⟨hSA,hSB,hSC,hSD⟩:=hSW);(try obtain⟨hSA,hSB⟩:=hSW);go_simp<;>omega
      simp only[Act.put,eA,eB,eC];refine qW 1 40 (.slice (some ⟨g2,0,none⟩) B.length c2) hS0 (fun W hSW=>?_) ?_
      ·(try dsimp only at hSW);(try obtain⟨hSA,hSB,hSC,hSD⟩:=hSW);(try obtain⟨hSA,hSB⟩:=hSW);go_simp<;>omega
      simp only[Act.put,eA,eB,eC];refine qW 2 41 (.int .i64 (B.length:Int)) hS0 (fun W hSW=>?_) ?_
      ·(try dsimp only at hSW);(try obtain⟨hSA,hSB,hSC,hSD⟩:=hSW);(try obtain⟨hSA,hSB⟩:=hSW);go_simp<;>omega
      simp only[Act.put,eA,eB,eC];refine qW 3 42 (.bool false) hS0 (fun W hSW=>?_) ?_
      ·(try dsimp only at hSW);(try obtain⟨hSA,hSB,hSC,hSD⟩:=hSW);(try obtain⟨hSA,hSB⟩:=hSW);go_simp<;>omega
      simp only[Act.put,eA,eB,eC];refine qW 4 43 (.bool false) hS0 (fun W hSW=>?_) ?_
      ·(try dsimp only at hSW);(try obtain⟨hSA,hSB,hSC,hSD⟩:=hSW);(try obtain⟨hSA,hSB⟩:=hSW);go_simp<;>omega
      simp only[Act.put,eA,eB,eC];refine qW 5 44 (.int .i64 (i:Int)) hS0 (fun W hSW=>?_) ?_
      ·(try dsimp only at hSW);(try obtain⟨hSA,hSB,hSC,hSD⟩:=hSW);(try obtain⟨hSA,hSB⟩:=hSW);go_simp<;>omega
      simp only[Act.put,eA,eB,eC];refine qW 6 45 (.slice (some ⟨g1,0,none⟩) A.length c1) hS0 (fun W hSW=>?_) ?_
      ·(try dsimp only at hSW);(try obtain⟨hSA,hSB,hSC,hSD⟩:=hSW);(try obtain⟨hSA,hSB⟩:=hSW);go_simp<;>omega
      simp only[Act.put,eA,eB,eC];refine qW 7 46 (.int .i64 (A.length:Int)) hS0 (fun W hSW=>?_) ?_
      ·(try dsimp only at hSW);(try obtain⟨hSA,hSB,hSC,hSD⟩:=hSW);(try obtain⟨hSA,hSB⟩:=hSW);go_simp<;>omega
      simp only[Act.put,eA,eB,eC];refine qW 8 47 (.bool true) hS0 (fun W hSW=>?_) ?_
      ·(try dsimp only at hSW);(try obtain⟨hSA,hSB,hSC,hSD⟩:=hSW);(try obtain⟨hSA,hSB⟩:=hSW);go_simp<;>omega
      simp only[Act.put,eA,eB,eC];refine qW 9 48 (.bool true) hS0 (fun W hSW=>?_) ?_
      ·(try dsimp only at hSW);(try obtain⟨hSA,hSB,hSC,hSD⟩:=hSW);(try obtain⟨hSA,hSB⟩:=hSW);go_simp<;>omega
      simp only[Act.put,eA,eB,eC];refine qW 10 49 (.slice (some ⟨g2,0,none⟩) B.length c2) hS0 (fun W hSW=>?_) ?_
      ·(try dsimp only at hSW);(try obtain⟨hSA,hSB,hSC,hSD⟩:=hSW);(try obtain⟨hSA,hSB⟩:=hSW);go_simp<;>omega
      simp only[Act.put,eA,eB,eC];refine qW 11 50 (.int .i64 (k:Int)) hS0 (fun W hSW=>?_) ?_
      ·(try dsimp only at hSW);(try obtain⟨hSA,hSB,hSC,hSD⟩:=hSW);(try obtain⟨hSA,hSB⟩:=hSW);go_simp<;>omega
      simp only[Act.put,eA,eB,eC];refine qW 12 51 (.pointer (some ⟨g2,k*2,none⟩)) hS0 (fun W hSW=>?_) ?_
      ·(try dsimp only at hSW);(try obtain⟨hSA,hSB,hSC,hSD⟩:=hSW);(try obtain⟨hSA,hSB⟩:=hSW);go_simp<;>omega
      simp only[Act.put,eA,eB,eC];refine qW 13 52 (.agg #[.int .i64 xb.1,.string ⟨xb.2.toArray⟩]) hS0 (fun W hSW=>?_) ?_
      ·(try dsimp only at hSW);(try obtain⟨hSA,hSB,hSC,hSD⟩:=hSW);(try obtain⟨hSA,hSB⟩:=hSW);go_simp<;>omega
      simp only[Act.put,eA,eB,eC];refine qW 14 53 (.slice (some ⟨g1,0,none⟩) A.length c1) hS0 (fun W hSW=>?_) ?_
      ·(try dsimp only at hSW);(try obtain⟨hSA,hSB,hSC,hSD⟩:=hSW);(try obtain⟨hSA,hSB⟩:=hSW);go_simp<;>omega
      simp only[Act.put,eA,eB,eC];refine qW 15 54 (.int .i64 (i:Int)) hS0 (fun W hSW=>?_) ?_
      ·(try dsimp only at hSW);(try obtain⟨hSA,hSB,hSC,hSD⟩:=hSW);(try obtain⟨hSA,hSB⟩:=hSW);go_simp<;>omega
      simp only[Act.put,eA,eB,eC];refine qW 16 55 (.pointer (some ⟨g1,i*2,none⟩)) hS0 (fun W hSW=>?_) ?_
      ·(try dsimp only at hSW);(try obtain⟨hSA,hSB,hSC,hSD⟩:=hSW);(try obtain⟨hSA,hSB⟩:=hSW);go_simp<;>omega
      simp only[Act.put,eA,eB,eC];refine qW 17 56 (.agg #[.int .i64 xa.1,.string ⟨xa.2.toArray⟩]) hS0 (fun W hSW=>?_) ?_
      ·(try dsimp only at hSW);(try obtain⟨hSA,hSB,hSC,hSD⟩:=hSW);(try obtain⟨hSA,hSB⟩:=hSW);go_simp<;>omega
      simp only[Act.put,eA,eB,eC];refine qR 18 fun K hK=>?_;go_simp;(with_reducible refine mo (f3.out _) fun wv hb3=>?_);have Bv:=BA.drew.trans (hb3.mono (by simp;omega));have hownv:=zA hownA.drew hb3;have t1:wv.cell? ⟨g1,i*2,none⟩=some (.int .i64 xa.1):=(hb3.cell (p:=⟨g1,i*2,none⟩) (by show g1<_;simp;omega)).trans ca;have t2:wv.cell? ⟨g1,i*2+1,none⟩=some (.string ⟨xa.2.toArray⟩):=(hb3.cell (p:=⟨g1,i*2+1,none⟩) (by show g1<_;simp;omega)).trans cb;have t3:wv.cell? ⟨g2,k*2,none⟩=some (.int .i64 xb.1):=(hb3.cell (p:=⟨g2,k*2,none⟩) (by show g2<_;simp;omega)).trans da';have t4:wv.cell? ⟨g2,k*2+1,none⟩=some (.string ⟨xb.2.toArray⟩):=(hb3.cell (p:=⟨g2,k*2+1,none⟩) (by show g2<_;simp;omega)).trans db';have v0:wv.cell? ⟨wr.heap.size,0,none⟩=some (.int .i64 0):=(hb3.cell (p:=⟨wr.heap.size,0,none⟩) (by simp)).trans n0;have v1:wv.cell? ⟨wr.heap.size,1,none⟩=some (.string ⟨#[]⟩):=(hb3.cell (p:=⟨wr.heap.size,1,none⟩) (by simp)).trans n1;have z0:wv.frozen? ⟨wr.heap.size,0,none⟩=false:=(hb3.frozen (p:=⟨wr.heap.size,0,none⟩) (by simp)).trans y0;have z1:wv.frozen? ⟨wr.heap.size,1,none⟩=false:=(hb3.frozen (p:=⟨wr.heap.size,1,none⟩) (by simp)).trans y1;refine hK.out _ _ ⟨t1,t2,t3,t4⟩ (fun hS1=>?_);clear hK K hS0 ca cb da' db' n0 n1 y0 y1 BA hownA hb3
      try simp only[Act.put,eA,eB,eC]
      refine qW 19 58 (.bool !c) hS1 (fun W hSW=>?_) ?_
      ·(try dsimp only at hSW);(try obtain⟨hSA,hSB,hSC,hSD⟩:=hSW);(try obtain⟨hSA,hSB⟩:=hSW);go_simp<;>omega
      simp only[Act.put,eA,eB,eC];refine qW 20 59 (.bool !c) hS1 (fun W hSW=>?_) ?_
      ·(try dsimp only at hSW);(try obtain⟨hSA,hSB,hSC,hSD⟩:=hSW);(try obtain⟨hSA,hSB⟩:=hSW);go_simp<;>omega
      simp only[Act.put,eA,eB,eC];refine qW 21 60 (.bool !c) hS1 (fun W hSW=>?_) ?_
      ·(try dsimp only at hSW);(try obtain⟨hSA,hSB,hSC,hSD⟩:=hSW);(try obtain⟨hSA,hSB⟩:=hSW);go_simp<;>omega
      simp only[Act.put,eA,eB,eC];refine wpAnyH_done (by kernel_rfl) ?_ _;clear hS1;cases c
      ·have HM:=Ld (HML.out rfl);have cav:=t1;have cbv:=t2;clear HML HMR t1 t2 t3 t4 f3;go_wp2_with fail;have hownS:=ownsRow_setCell_other (ownsRow_setCell_other hownv (a:=⟨wr.heap.size,0,none⟩) hgv (.int .i64 xa.1)) (a:=⟨wr.heap.size,1,none⟩) hgv (.string ⟨xa.2.toArray⟩);have BS:=(Bv.setCell (p:=⟨wr.heap.size,0,none⟩) hzz (.int .i64 xa.1)).setCell (p:=⟨wr.heap.size,1,none⟩) hzz (.string ⟨xa.2.toArray⟩);have s0:((wv.setCell ⟨wr.heap.size,0,none⟩ (.int .i64 xa.1)).setCell ⟨wr.heap.size,1,none⟩ (.string ⟨xa.2.toArray⟩)).cell? ⟨wr.heap.size,0,none⟩=some (.int .i64 xa.1):=(by simp[World.cell?_setCell_other,World.cell?_setCell_same,v0]);have s1:((wv.setCell ⟨wr.heap.size,0,none⟩ (.int .i64 xa.1)).setCell ⟨wr.heap.size,1,none⟩ (.string ⟨xa.2.toArray⟩)).cell? ⟨wr.heap.size,1,none⟩=some (.string ⟨xa.2.toArray⟩):=(by simp[World.cell?_setCell_other,World.cell?_setCell_same,v1]);generalize (wv.setCell ⟨wr.heap.size,0,none⟩ (.int .i64 xa.1)).setCell ⟨wr.heap.size,1,none⟩ (.string ⟨xa.2.toArray⟩)=ws at hownS BS s0 s1;have hzs:=BS.size;have hlS:=hownS.lt;clear hownv Bv v0 v1 z0 z1 cav cbv hgv;rcases List.eq_nil_or_concat out with hout|⟨r,z,hout⟩
       ·subst hout;have HP:=Ld (HM.out.trans (by rw[gC]));clear HM;refine wp_region_held_drew (S:=fun w'=>w'.cell? ⟨wr.heap.size,0,none⟩=some (.int .i64 xa.1)/\w'.cell? ⟨wr.heap.size,1,none⟩=some (.string ⟨xa.2.toArray⟩)) (by kernel_rfl) ⟨s0,s1⟩ (fun hS3=>?_);refine qW 0 73 (.slice (some ⟨g,0,none⟩) 0 cp) hS3 (fun W hSW=>?_) ?_
        ·(try dsimp only at hSW);(try obtain⟨hSA,hSB,hSC,hSD⟩:=hSW);(try obtain⟨hSA,hSB⟩:=hSW);go_simp<;>omega
        simp only[Act.put,eA,eB,eC];refine qW 1 74 (.int .i64 0) hS3 (fun W hSW=>?_) ?_
        ·(try dsimp only at hSW);(try obtain⟨hSA,hSB,hSC,hSD⟩:=hSW);(try obtain⟨hSA,hSB⟩:=hSW);go_simp<;>omega
        simp only[Act.put,eA,eB,eC];refine qW 2 75 (.bool true) hS3 (fun W hSW=>?_) ?_
        ·(try dsimp only at hSW);(try obtain⟨hSA,hSB,hSC,hSD⟩:=hSW);(try obtain⟨hSA,hSB⟩:=hSW);go_simp<;>omega
        simp only[Act.put,eA,eB,eC];refine qW 3 76 (.bool true) hS3 (fun W hSW=>?_) ?_
        ·(try dsimp only at hSW);(try obtain⟨hSA,hSB,hSC,hSD⟩:=hSW);(try obtain⟨hSA,hSB⟩:=hSW);go_simp<;>omega
        simp only[Act.put,eA,eB,eC];refine qS 4 77 hS3 ?_;simp only[Act.put,eA,eB,eC];refine qS 5 78 hS3 ?_;simp only[Act.put,eA,eB,eC];refine qS 6 79 hS3 ?_;simp only[Act.put,eA,eB,eC];refine qS 7 80 hS3 ?_;simp only[Act.put,eA,eB,eC];refine qS 8 81 hS3 ?_;simp only[Act.put,eA,eB,eC];refine qS 9 82 hS3 ?_;simp only[Act.put,eA,eB,eC];refine qS 10 83 hS3 ?_;simp only[Act.put,eA,eB,eC];refine qS 11 84 hS3 ?_;simp only[Act.put,eA,eB,eC];refine qW 12 85 (.bool true) hS3 (fun W hSW=>?_) ?_
        ·(try dsimp only at hSW);(try obtain⟨hSA,hSB,hSC,hSD⟩:=hSW);(try obtain⟨hSA,hSB⟩:=hSW);go_simp<;>omega
        simp only[Act.put,eA,eB,eC];refine wpAnyH_done (by kernel_rfl) ?_ _;go_wp2_with (at_builtin;refine wpList_append_lies _ rfl _ _ _ rfl w2.heap.size 125 i0 _ 2 24 Tryz.underlying38 hi hz0 hz1 hz2 rfl (by decide) _ _ _ rfl ((hownS.alloc _).drew) ⟨ws.heap.size,0,none⟩ 1 1 [.int .i64 xa.1,.string ⟨xa.2.toArray⟩] rfl rfl (fun j u hu=>World.news_of_block (cs:=#[.int .i64 xa.1,.string ⟨xa.2.toArray⟩]) (t:=125) (fr:=(0,0)) (heap_alloc_new ws _) j u hu) (by simp[Value.oneCell']) (by decide) (by simp only[maxLen];omega) (by omega) (by simp;omega) _ rfl ?_;intro g3 cap3 w3' hown3 hgrow hat hlt3);go_roundw
        case rel=>exact⟨i+1,k,[xa],g3,cap3,by omega,by omega,by simp only[List.length_singleton];omega,by go_num,by go_num,rfl,by simpa [uP,qD,sv] using hown3,((BS.alloc hzs _).drew).grown hgrow (by simp;omega) (fun j hj=>(hlS j hj).1),HP.out⟩
        case measure=>simp[intOf];omega
       ·rw[List.concat_eq_append] at hout;subst hout;obtain⟨ea,eb⟩:=qO (l:=r++[z]) (j:=r.length) (by simp);have cz0:=(hownS.cellAt (r.length*2) (by simp only[lA,List.length_singleton];omega)).trans ea;have cz1:=(hownS.cellAt (r.length*2+1) (by simp only[lA,List.length_singleton];omega)).trans eb;simp only[List.getElem_concat_length,sv] at cz0 cz1;have dz:(((r.length:Int)+1)==0)=false:=(by rw[bF];omega);have rl:r.length+1<=4194304:=(by simp at bn;omega);have qz0:(0:Int)<=(r.length:Int):=(by omega);have qz1:(r.length:Int)<(r.length:Int)+1:=(by omega);have qz2:IntKind.i64.wrap (r.length:Int)=(r.length:Int):=(by rw[IntKind.wrap_i64];omega);clear ea eb;by_cases hzx:z=xa
        ·subst hzx;have HP:=Ld (HM.out.trans (by rw[lQ]));have HO:=Ld hownS;clear HM hownS;refine wp_region_held_drew (S:=fun w'=>w'.cell? ⟨wr.heap.size,0,none⟩=some (.int .i64 z.1)/\w'.cell? ⟨wr.heap.size,1,none⟩=some (.string ⟨z.2.toArray⟩)/\w'.cell? ⟨g,r.length*2,none⟩=some (.int .i64 z.1)/\w'.cell? ⟨g,r.length*2+1,none⟩=some (.string ⟨z.2.toArray⟩)) (by kernel_rfl) ⟨s0,s1,cz0,cz1⟩ (fun hS3=>?_);refine qW 0 73 (.slice (some ⟨g,0,none⟩) (r.length+1) cp) hS3 (fun W hSW=>?_) ?_
         ·(try dsimp only at hSW);(try obtain⟨hSA,hSB,hSC,hSD⟩:=hSW);(try obtain⟨hSA,hSB⟩:=hSW);go_simp<;>omega
         simp only[Act.put,eA,eB,eC];refine qW 1 74 (.int .i64 ((r.length:Int)+1)) hS3 (fun W hSW=>?_) ?_
         ·(try dsimp only at hSW);(try obtain⟨hSA,hSB,hSC,hSD⟩:=hSW);(try obtain⟨hSA,hSB⟩:=hSW);go_simp<;>omega
         simp only[Act.put,eA,eB,eC];refine qW 2 75 (.bool false) hS3 (fun W hSW=>?_) ?_
         ·(try dsimp only at hSW);(try obtain⟨hSA,hSB,hSC,hSD⟩:=hSW);(try obtain⟨hSA,hSB⟩:=hSW);go_simp<;>omega
         simp only[Act.put,eA,eB,eC];refine qW 3 76 (.bool false) hS3 (fun W hSW=>?_) ?_
         ·(try dsimp only at hSW);(try obtain⟨hSA,hSB,hSC,hSD⟩:=hSW);(try obtain⟨hSA,hSB⟩:=hSW);go_simp<;>omega
         simp only[Act.put,eA,eB,eC];refine qW 4 77 (.slice (some ⟨g,0,none⟩) (r.length+1) cp) hS3 (fun W hSW=>?_) ?_
         ·(try dsimp only at hSW);(try obtain⟨hSA,hSB,hSC,hSD⟩:=hSW);(try obtain⟨hSA,hSB⟩:=hSW);go_simp<;>omega
         simp only[Act.put,eA,eB,eC];refine qW 5 78 (.slice (some ⟨g,0,none⟩) (r.length+1) cp) hS3 (fun W hSW=>?_) ?_
         ·(try dsimp only at hSW);(try obtain⟨hSA,hSB,hSC,hSD⟩:=hSW);(try obtain⟨hSA,hSB⟩:=hSW);go_simp<;>omega
         simp only[Act.put,eA,eB,eC];refine qW 6 79 (.int .i64 ((r.length:Int)+1)) hS3 (fun W hSW=>?_) ?_
         ·(try dsimp only at hSW);(try obtain⟨hSA,hSB,hSC,hSD⟩:=hSW);(try obtain⟨hSA,hSB⟩:=hSW);go_simp<;>omega
         simp only[Act.put,eA,eB,eC];refine qW 7 80 (.int .i64 (r.length:Int)) hS3 (fun W hSW=>?_) ?_
         ·(try dsimp only at hSW);(try obtain⟨hSA,hSB,hSC,hSD⟩:=hSW);(try obtain⟨hSA,hSB⟩:=hSW);go_simp<;>omega
         simp only[Act.put,eA,eB,eC];refine qW 8 81 (.pointer (some ⟨g,r.length*2,none⟩)) hS3 (fun W hSW=>?_) ?_
         ·(try dsimp only at hSW);(try obtain⟨hSA,hSB,hSC,hSD⟩:=hSW);(try obtain⟨hSA,hSB⟩:=hSW);go_simp<;>omega
         simp only[Act.put,eA,eB,eC];refine qW 9 82 (.agg #[.int .i64 z.1,.string ⟨z.2.toArray⟩]) hS3 (fun W hSW=>?_) ?_
         ·(try dsimp only at hSW);(try obtain⟨hSA,hSB,hSC,hSD⟩:=hSW);(try obtain⟨hSA,hSB⟩:=hSW);go_simp<;>omega
         simp only[Act.put,eA,eB,eC];refine qW 10 83 (.agg #[.int .i64 z.1,.string ⟨z.2.toArray⟩]) hS3 (fun W hSW=>?_) ?_
         ·(try dsimp only at hSW);(try obtain⟨hSA,hSB,hSC,hSD⟩:=hSW);(try obtain⟨hSA,hSB⟩:=hSW);go_simp<;>omega
         simp only[Act.put,eA,eB,eC];refine qW 11 84 (.bool false) hS3 (fun W hSW=>?_) ?_
         ·(try dsimp only at hSW);(try obtain⟨hSA,hSB,hSC,hSD⟩:=hSW);(try obtain⟨hSA,hSB⟩:=hSW);go_simp<;>omega
         simp only[Act.put,eA,eB,eC];refine qW 12 85 (.bool false) hS3 (fun W hSW=>?_) ?_
         ·(try dsimp only at hSW);(try obtain⟨hSA,hSB,hSC,hSD⟩:=hSW);(try obtain⟨hSA,hSB⟩:=hSW);go_simp<;>omega
         simp only[Act.put,eA,eB,eC];refine wpAnyH_done (by kernel_rfl) ?_ _;go_wp2;go_roundw
         case rel=>exact⟨i+1,k,r++[z],g,cp,by omega,by omega,by simp at hol |-;omega,by go_num,by go_num,by simp,HO.out,BS.drew,HP.out⟩
         case measure=>simp[intOf];omega
        ·have HP:=Ld (HM.out.trans (by rw[nT hzx]));clear HM;have hne:(z.1==xa.1)=false\/((z.1==xa.1)=true/\(z.2==xa.2)=false):=by
          by_cases e:z.1=xa.1
          ·exact .inr ⟨by rw[beq_iff_eq];exact e,by rw[bF];exact fun e2=>hzx (Prod.ext e e2)⟩
          ·exact .inl (by rw[bF];exact e)
         clear hzx;rcases hne with hne|⟨hne,hne2⟩
         all_goals
          refine wp_region_held_drew (S:=fun w'=>w'.cell? ⟨wr.heap.size,0,none⟩=some (.int .i64 xa.1)/\w'.cell? ⟨wr.heap.size,1,none⟩=some (.string ⟨xa.2.toArray⟩)/\w'.cell? ⟨g,r.length*2,none⟩=some (.int .i64 z.1)/\w'.cell? ⟨g,r.length*2+1,none⟩=some (.string ⟨z.2.toArray⟩)) (by kernel_rfl) ⟨s0,s1,cz0,cz1⟩ (fun hS3=>?_);refine qW 0 73 (.slice (some ⟨g,0,none⟩) (r.length+1) cp) hS3 (fun W hSW=>?_) ?_
          ·(try dsimp only at hSW);(try obtain⟨hSA,hSB,hSC,hSD⟩:=hSW);(try obtain⟨hSA,hSB⟩:=hSW);go_simp<;>omega
          simp only[Act.put,eA,eB,eC];refine qW 1 74 (.int .i64 ((r.length:Int)+1)) hS3 (fun W hSW=>?_) ?_
          ·(try dsimp only at hSW);(try obtain⟨hSA,hSB,hSC,hSD⟩:=hSW);(try obtain⟨hSA,hSB⟩:=hSW);go_simp<;>omega
          simp only[Act.put,eA,eB,eC];refine qW 2 75 (.bool false) hS3 (fun W hSW=>?_) ?_
          ·(try dsimp only at hSW);(try obtain⟨hSA,hSB,hSC,hSD⟩:=hSW);(try obtain⟨hSA,hSB⟩:=hSW);go_simp<;>omega
          simp only[Act.put,eA,eB,eC];refine qW 3 76 (.bool false) hS3 (fun W hSW=>?_) ?_
          ·(try dsimp only at hSW);(try obtain⟨hSA,hSB,hSC,hSD⟩:=hSW);(try obtain⟨hSA,hSB⟩:=hSW);go_simp<;>omega
          simp only[Act.put,eA,eB,eC];refine qW 4 77 (.slice (some ⟨g,0,none⟩) (r.length+1) cp) hS3 (fun W hSW=>?_) ?_
          ·(try dsimp only at hSW);(try obtain⟨hSA,hSB,hSC,hSD⟩:=hSW);(try obtain⟨hSA,hSB⟩:=hSW);go_simp<;>omega
          simp only[Act.put,eA,eB,eC];refine qW 5 78 (.slice (some ⟨g,0,none⟩) (r.length+1) cp) hS3 (fun W hSW=>?_) ?_
          ·(try dsimp only at hSW);(try obtain⟨hSA,hSB,hSC,hSD⟩:=hSW);(try obtain⟨hSA,hSB⟩:=hSW);go_simp<;>omega
          simp only[Act.put,eA,eB,eC];refine qW 6 79 (.int .i64 ((r.length:Int)+1)) hS3 (fun W hSW=>?_) ?_
          ·(try dsimp only at hSW);(try obtain⟨hSA,hSB,hSC,hSD⟩:=hSW);(try obtain⟨hSA,hSB⟩:=hSW);go_simp<;>omega
          simp only[Act.put,eA,eB,eC];refine qW 7 80 (.int .i64 (r.length:Int)) hS3 (fun W hSW=>?_) ?_
          ·(try dsimp only at hSW);(try obtain⟨hSA,hSB,hSC,hSD⟩:=hSW);(try obtain⟨hSA,hSB⟩:=hSW);go_simp<;>omega
          simp only[Act.put,eA,eB,eC];refine qW 8 81 (.pointer (some ⟨g,r.length*2,none⟩)) hS3 (fun W hSW=>?_) ?_
          ·(try dsimp only at hSW);(try obtain⟨hSA,hSB,hSC,hSD⟩:=hSW);(try obtain⟨hSA,hSB⟩:=hSW);go_simp<;>omega
          simp only[Act.put,eA,eB,eC];refine qW 9 82 (.agg #[.int .i64 z.1,.string ⟨z.2.toArray⟩]) hS3 (fun W hSW=>?_) ?_
          ·(try dsimp only at hSW);(try obtain⟨hSA,hSB,hSC,hSD⟩:=hSW);(try obtain⟨hSA,hSB⟩:=hSW);go_simp<;>omega
          simp only[Act.put,eA,eB,eC];refine qW 10 83 (.agg #[.int .i64 xa.1,.string ⟨xa.2.toArray⟩]) hS3 (fun W hSW=>?_) ?_
          ·(try dsimp only at hSW);(try obtain⟨hSA,hSB,hSC,hSD⟩:=hSW);(try obtain⟨hSA,hSB⟩:=hSW);go_simp<;>omega
          simp only[Act.put,eA,eB,eC];refine qW 11 84 (.bool true) hS3 (fun W hSW=>?_) ?_
          ·(try dsimp only at hSW);(try obtain⟨hSA,hSB,hSC,hSD⟩:=hSW);(try obtain⟨hSA,hSB⟩:=hSW);go_simp<;>omega
          simp only[Act.put,eA,eB,eC];refine qW 12 85 (.bool true) hS3 (fun W hSW=>?_) ?_
          ·(try dsimp only at hSW);(try obtain⟨hSA,hSB,hSC,hSD⟩:=hSW);(try obtain⟨hSA,hSB⟩:=hSW);go_simp<;>omega
          simp only[Act.put,eA,eB,eC];refine wpAnyH_done (by kernel_rfl) ?_ _;go_wp2_with (at_builtin;refine wpList_append_lies _ rfl _ _ _ rfl w2.heap.size 125 i0 _ 2 24 Tryz.underlying38 hi hz0 hz1 hz2 rfl (by decide) _ _ _ rfl ((hownS.alloc _).drew) ⟨ws.heap.size,0,none⟩ 1 1 [.int .i64 xa.1,.string ⟨xa.2.toArray⟩] rfl rfl (fun j u hu=>World.news_of_block (cs:=#[.int .i64 xa.1,.string ⟨xa.2.toArray⟩]) (t:=125) (fr:=(0,0)) (heap_alloc_new ws _) j u hu) (by simp[Value.oneCell']) (by decide) (by simp only[maxLen];omega) (by omega) (by simp;omega) _ rfl ?_;intro g3 cap3 w3' hown3 hgrow hat hlt3);go_roundw
          case rel=>exact⟨i+1,k,r++[z]++[xa],g3,cap3,by omega,by omega,by simp at hol |-;omega,by go_num,by go_num,by simp,by simpa [rQ,uP,qD,sv] using hown3,((BS.alloc hzs _).drew).grown hgrow (by simp;omega) (fun j hj=>(hlS j hj).1),HP.out⟩
          case measure=>simp[intOf];omega
      ·have HM:=Ld (HMR.out (by simp));have cav:=t3;have cbv:=t4;clear HML HMR t1 t2 t3 t4 f3;go_wp2_with fail;have hownS:=ownsRow_setCell_other (ownsRow_setCell_other hownv (a:=⟨wr.heap.size,0,none⟩) hgv (.int .i64 xb.1)) (a:=⟨wr.heap.size,1,none⟩) hgv (.string ⟨xb.2.toArray⟩);have BS:=(Bv.setCell (p:=⟨wr.heap.size,0,none⟩) hzz (.int .i64 xb.1)).setCell (p:=⟨wr.heap.size,1,none⟩) hzz (.string ⟨xb.2.toArray⟩);have s0:((wv.setCell ⟨wr.heap.size,0,none⟩ (.int .i64 xb.1)).setCell ⟨wr.heap.size,1,none⟩ (.string ⟨xb.2.toArray⟩)).cell? ⟨wr.heap.size,0,none⟩=some (.int .i64 xb.1):=(by simp[World.cell?_setCell_other,World.cell?_setCell_same,v0]);have s1:((wv.setCell ⟨wr.heap.size,0,none⟩ (.int .i64 xb.1)).setCell ⟨wr.heap.size,1,none⟩ (.string ⟨xb.2.toArray⟩)).cell? ⟨wr.heap.size,1,none⟩=some (.string ⟨xb.2.toArray⟩):=(by simp[World.cell?_setCell_other,World.cell?_setCell_same,v1]);generalize (wv.setCell ⟨wr.heap.size,0,none⟩ (.int .i64 xb.1)).setCell ⟨wr.heap.size,1,none⟩ (.string ⟨xb.2.toArray⟩)=ws at hownS BS s0 s1;have hzs:=BS.size;have hlS:=hownS.lt;clear hownv Bv v0 v1 z0 z1 cav cbv hgv;rcases List.eq_nil_or_concat out with hout|⟨r,z,hout⟩
       ·subst hout;have HP:=Ld (HM.out.trans (by rw[gC]));clear HM;refine wp_region_held_drew (S:=fun w'=>w'.cell? ⟨wr.heap.size,0,none⟩=some (.int .i64 xb.1)/\w'.cell? ⟨wr.heap.size,1,none⟩=some (.string ⟨xb.2.toArray⟩)) (by kernel_rfl) ⟨s0,s1⟩ (fun hS3=>?_);refine qW 0 73 (.slice (some ⟨g,0,none⟩) 0 cp) hS3 (fun W hSW=>?_) ?_
        ·(try dsimp only at hSW);(try obtain⟨hSA,hSB,hSC,hSD⟩:=hSW);(try obtain⟨hSA,hSB⟩:=hSW);go_simp<;>omega
        simp only[Act.put,eA,eB,eC];refine qW 1 74 (.int .i64 0) hS3 (fun W hSW=>?_) ?_
        ·(try dsimp only at hSW);(try obtain⟨hSA,hSB,hSC,hSD⟩:=hSW);(try obtain⟨hSA,hSB⟩:=hSW);go_simp<;>omega
        simp only[Act.put,eA,eB,eC];refine qW 2 75 (.bool true) hS3 (fun W hSW=>?_) ?_
        ·(try dsimp only at hSW);(try obtain⟨hSA,hSB,hSC,hSD⟩:=hSW);(try obtain⟨hSA,hSB⟩:=hSW);go_simp<;>omega
        simp only[Act.put,eA,eB,eC];refine qW 3 76 (.bool true) hS3 (fun W hSW=>?_) ?_
        ·(try dsimp only at hSW);(try obtain⟨hSA,hSB,hSC,hSD⟩:=hSW);(try obtain⟨hSA,hSB⟩:=hSW);go_simp<;>omega
        simp only[Act.put,eA,eB,eC];refine qS 4 77 hS3 ?_;simp only[Act.put,eA,eB,eC];refine qS 5 78 hS3 ?_;simp only[Act.put,eA,eB,eC];refine qS 6 79 hS3 ?_;simp only[Act.put,eA,eB,eC];refine qS 7 80 hS3 ?_;simp only[Act.put,eA,eB,eC];refine qS 8 81 hS3 ?_;simp only[Act.put,eA,eB,eC];refine qS 9 82 hS3 ?_;simp only[Act.put,eA,eB,eC];refine qS 10 83 hS3 ?_;simp only[Act.put,eA,eB,eC];refine qS 11 84 hS3 ?_;simp only[Act.put,eA,eB,eC];refine qW 12 85 (.bool true) hS3 (fun W hSW=>?_) ?_
        ·(try dsimp only at hSW);(try obtain⟨hSA,hSB,hSC,hSD⟩:=hSW);(try obtain⟨hSA,hSB⟩:=hSW);go_simp<;>omega
        simp only[Act.put,eA,eB,eC];refine wpAnyH_done (by kernel_rfl) ?_ _;go_wp2_with (at_builtin;refine wpList_append_lies _ rfl _ _ _ rfl w2.heap.size 125 i0 _ 2 24 Tryz.underlying38 hi hz0 hz1 hz2 rfl (by decide) _ _ _ rfl ((hownS.alloc _).drew) ⟨ws.heap.size,0,none⟩ 1 1 [.int .i64 xb.1,.string ⟨xb.2.toArray⟩] rfl rfl (fun j u hu=>World.news_of_block (cs:=#[.int .i64 xb.1,.string ⟨xb.2.toArray⟩]) (t:=125) (fr:=(0,0)) (heap_alloc_new ws _) j u hu) (by simp[Value.oneCell']) (by decide) (by simp only[maxLen];omega) (by omega) (by simp;omega) _ rfl ?_;intro g3 cap3 w3' hown3 hgrow hat hlt3);go_roundw
        case rel=>exact⟨i,k+1,[xb],g3,cap3,by omega,by omega,by simp only[List.length_singleton];omega,by go_num,by go_num,rfl,by simpa [uP,qD,sv] using hown3,((BS.alloc hzs _).drew).grown hgrow (by simp;omega) (fun j hj=>(hlS j hj).1),HP.out⟩
        case measure=>simp[intOf];omega
       ·rw[List.concat_eq_append] at hout;subst hout;obtain⟨ea,eb⟩:=qO (l:=r++[z]) (j:=r.length) (by simp);have cz0:=(hownS.cellAt (r.length*2) (by simp only[lA,List.length_singleton];omega)).trans ea;have cz1:=(hownS.cellAt (r.length*2+1) (by simp only[lA,List.length_singleton];omega)).trans eb;simp only[List.getElem_concat_length,sv] at cz0 cz1;have dz:(((r.length:Int)+1)==0)=false:=(by rw[bF];omega);have rl:r.length+1<=4194304:=(by simp at bn;omega);have qz0:(0:Int)<=(r.length:Int):=(by omega);have qz1:(r.length:Int)<(r.length:Int)+1:=(by omega);have qz2:IntKind.i64.wrap (r.length:Int)=(r.length:Int):=(by rw[IntKind.wrap_i64];omega);clear ea eb;by_cases hzx:z=xb
        ·subst hzx;have HP:=Ld (HM.out.trans (by rw[lQ]));have HO:=Ld hownS;clear HM hownS;refine wp_region_held_drew (S:=fun w'=>w'.cell? ⟨wr.heap.size,0,none⟩=some (.int .i64 z.1)/\w'.cell? ⟨wr.heap.size,1,none⟩=some (.string ⟨z.2.toArray⟩)/\w'.cell? ⟨g,r.length*2,none⟩=some (.int .i64 z.1)/\w'.cell? ⟨g,r.length*2+1,none⟩=some (.string ⟨z.2.toArray⟩)) (by kernel_rfl) ⟨s0,s1,cz0,cz1⟩ (fun hS3=>?_);refine qW 0 73 (.slice (some ⟨g,0,none⟩) (r.length+1) cp) hS3 (fun W hSW=>?_) ?_
         ·(try dsimp only at hSW);(try obtain⟨hSA,hSB,hSC,hSD⟩:=hSW);(try obtain⟨hSA,hSB⟩:=hSW);go_simp<;>omega
         simp only[Act.put,eA,eB,eC];refine qW 1 74 (.int .i64 ((r.length:Int)+1)) hS3 (fun W hSW=>?_) ?_
         ·(try dsimp only at hSW);(try obtain⟨hSA,hSB,hSC,hSD⟩:=hSW);(try obtain⟨hSA,hSB⟩:=hSW);go_simp<;>omega
         simp only[Act.put,eA,eB,eC];refine qW 2 75 (.bool false) hS3 (fun W hSW=>?_) ?_
         ·(try dsimp only at hSW);(try obtain⟨hSA,hSB,hSC,hSD⟩:=hSW);(try obtain⟨hSA,hSB⟩:=hSW);go_simp<;>omega
         simp only[Act.put,eA,eB,eC];refine qW 3 76 (.bool false) hS3 (fun W hSW=>?_) ?_
         ·(try dsimp only at hSW);(try obtain⟨hSA,hSB,hSC,hSD⟩:=hSW);(try obtain⟨hSA,hSB⟩:=hSW);go_simp<;>omega
         simp only[Act.put,eA,eB,eC];refine qW 4 77 (.slice (some ⟨g,0,none⟩) (r.length+1) cp) hS3 (fun W hSW=>?_) ?_
         ·(try dsimp only at hSW);(try obtain⟨hSA,hSB,hSC,hSD⟩:=hSW);(try obtain⟨hSA,hSB⟩:=hSW);go_simp<;>omega
         simp only[Act.put,eA,eB,eC];refine qW 5 78 (.slice (some ⟨g,0,none⟩) (r.length+1) cp) hS3 (fun W hSW=>?_) ?_
         ·(try dsimp only at hSW);(try obtain⟨hSA,hSB,hSC,hSD⟩:=hSW);(try obtain⟨hSA,hSB⟩:=hSW);go_simp<;>omega
         simp only[Act.put,eA,eB,eC];refine qW 6 79 (.int .i64 ((r.length:Int)+1)) hS3 (fun W hSW=>?_) ?_
         ·(try dsimp only at hSW);(try obtain⟨hSA,hSB,hSC,hSD⟩:=hSW);(try obtain⟨hSA,hSB⟩:=hSW);go_simp<;>omega
         simp only[Act.put,eA,eB,eC];refine qW 7 80 (.int .i64 (r.length:Int)) hS3 (fun W hSW=>?_) ?_
         ·(try dsimp only at hSW);(try obtain⟨hSA,hSB,hSC,hSD⟩:=hSW);(try obtain⟨hSA,hSB⟩:=hSW);go_simp<;>omega
         simp only[Act.put,eA,eB,eC];refine qW 8 81 (.pointer (some ⟨g,r.length*2,none⟩)) hS3 (fun W hSW=>?_) ?_
         ·(try dsimp only at hSW);(try obtain⟨hSA,hSB,hSC,hSD⟩:=hSW);(try obtain⟨hSA,hSB⟩:=hSW);go_simp<;>omega
         simp only[Act.put,eA,eB,eC];refine qW 9 82 (.agg #[.int .i64 z.1,.string ⟨z.2.toArray⟩]) hS3 (fun W hSW=>?_) ?_
         ·(try dsimp only at hSW);(try obtain⟨hSA,hSB,hSC,hSD⟩:=hSW);(try obtain⟨hSA,hSB⟩:=hSW);go_simp<;>omega
         simp only[Act.put,eA,eB,eC];refine qW 10 83 (.agg #[.int .i64 z.1,.string ⟨z.2.toArray⟩]) hS3 (fun W hSW=>?_) ?_
         ·(try dsimp only at hSW);(try obtain⟨hSA,hSB,hSC,hSD⟩:=hSW);(try obtain⟨hSA,hSB⟩:=hSW);go_simp<;>omega
         simp only[Act.put,eA,eB,eC];refine qW 11 84 (.bool false) hS3 (fun W hSW=>?_) ?_
         ·(try dsimp only at hSW);(try obtain⟨hSA,hSB,hSC,hSD⟩:=hSW);(try obtain⟨hSA,hSB⟩:=hSW);go_simp<;>omega
         simp only[Act.put,eA,eB,eC];refine qW 12 85 (.bool false) hS3 (fun W hSW=>?_) ?_
         ·(try dsimp only at hSW);(try obtain⟨hSA,hSB,hSC,hSD⟩:=hSW);(try obtain⟨hSA,hSB⟩:=hSW);go_simp<;>omega
         simp only[Act.put,eA,eB,eC];refine wpAnyH_done (by kernel_rfl) ?_ _;go_wp2;go_roundw
         case rel=>exact⟨i,k+1,r++[z],g,cp,by omega,by omega,by simp at hol |-;omega,by go_num,by go_num,by simp,HO.out,BS.drew,HP.out⟩
         case measure=>simp[intOf];omega
        ·have HP:=Ld (HM.out.trans (by rw[nT hzx]));clear HM;have hne:(z.1==xb.1)=false\/((z.1==xb.1)=true/\(z.2==xb.2)=false):=by
          by_cases e:z.1=xb.1
          ·exact .inr ⟨by rw[beq_iff_eq];exact e,by rw[bF];exact fun e2=>hzx (Prod.ext e e2)⟩
          ·exact .inl (by rw[bF];exact e)
         clear hzx;rcases hne with hne|⟨hne,hne2⟩
         all_goals
          refine wp_region_held_drew (S:=fun w'=>w'.cell? ⟨wr.heap.size,0,none⟩=some (.int .i64 xb.1)/\w'.cell? ⟨wr.heap.size,1,none⟩=some (.string ⟨xb.2.toArray⟩)/\w'.cell? ⟨g,r.length*2,none⟩=some (.int .i64 z.1)/\w'.cell? ⟨g,r.length*2+1,none⟩=some (.string ⟨z.2.toArray⟩)) (by kernel_rfl) ⟨s0,s1,cz0,cz1⟩ (fun hS3=>?_);refine qW 0 73 (.slice (some ⟨g,0,none⟩) (r.length+1) cp) hS3 (fun W hSW=>?_) ?_
          ·(try dsimp only at hSW);(try obtain⟨hSA,hSB,hSC,hSD⟩:=hSW);(try obtain⟨hSA,hSB⟩:=hSW);go_simp<;>omega
          simp only[Act.put,eA,eB,eC];refine qW 1 74 (.int .i64 ((r.length:Int)+1)) hS3 (fun W hSW=>?_) ?_
          ·(try dsimp only at hSW);(try obtain⟨hSA,hSB,hSC,hSD⟩:=hSW);(try obtain⟨hSA,hSB⟩:=hSW);go_simp<;>omega
          simp only[Act.put,eA,eB,eC];refine qW 2 75 (.bool false) hS3 (fun W hSW=>?_) ?_
          ·(try dsimp only at hSW);(try obtain⟨hSA,hSB,hSC,hSD⟩:=hSW);(try obtain⟨hSA,hSB⟩:=hSW);go_simp<;>omega
          simp only[Act.put,eA,eB,eC];refine qW 3 76 (.bool false) hS3 (fun W hSW=>?_) ?_
          ·(try dsimp only at hSW);(try obtain⟨hSA,hSB,hSC,hSD⟩:=hSW);(try obtain⟨hSA,hSB⟩:=hSW);go_simp<;>omega
          simp only[Act.put,eA,eB,eC];refine qW 4 77 (.slice (some ⟨g,0,none⟩) (r.length+1) cp) hS3 (fun W hSW=>?_) ?_
          ·(try dsimp only at hSW);(try obtain⟨hSA,hSB,hSC,hSD⟩:=hSW);(try obtain⟨hSA,hSB⟩:=hSW);go_simp<;>omega
          simp only[Act.put,eA,eB,eC];refine qW 5 78 (.slice (some ⟨g,0,none⟩) (r.length+1) cp) hS3 (fun W hSW=>?_) ?_
          ·(try dsimp only at hSW);(try obtain⟨hSA,hSB,hSC,hSD⟩:=hSW);(try obtain⟨hSA,hSB⟩:=hSW);go_simp<;>omega
          simp only[Act.put,eA,eB,eC];refine qW 6 79 (.int .i64 ((r.length:Int)+1)) hS3 (fun W hSW=>?_) ?_
          ·(try dsimp only at hSW);(try obtain⟨hSA,hSB,hSC,hSD⟩:=hSW);(try obtain⟨hSA,hSB⟩:=hSW);go_simp<;>omega
          simp only[Act.put,eA,eB,eC];refine qW 7 80 (.int .i64 (r.length:Int)) hS3 (fun W hSW=>?_) ?_
          ·(try dsimp only at hSW);(try obtain⟨hSA,hSB,hSC,hSD⟩:=hSW);(try obtain⟨hSA,hSB⟩:=hSW);go_simp<;>omega
          simp only[Act.put,eA,eB,eC];refine qW 8 81 (.pointer (some ⟨g,r.length*2,none⟩)) hS3 (fun W hSW=>?_) ?_
          ·(try dsimp only at hSW);(try obtain⟨hSA,hSB,hSC,hSD⟩:=hSW);(try obtain⟨hSA,hSB⟩:=hSW);go_simp<;>omega
          simp only[Act.put,eA,eB,eC];refine qW 9 82 (.agg #[.int .i64 z.1,.string ⟨z.2.toArray⟩]) hS3 (fun W hSW=>?_) ?_
          ·(try dsimp only at hSW);(try obtain⟨hSA,hSB,hSC,hSD⟩:=hSW);(try obtain⟨hSA,hSB⟩:=hSW);go_simp<;>omega
          simp only[Act.put,eA,eB,eC];refine qW 10 83 (.agg #[.int .i64 xb.1,.string ⟨xb.2.toArray⟩]) hS3 (fun W hSW=>?_) ?_
          ·(try dsimp only at hSW);(try obtain⟨hSA,hSB,hSC,hSD⟩:=hSW);(try obtain⟨hSA,hSB⟩:=hSW);go_simp<;>omega
          simp only[Act.put,eA,eB,eC];refine qW 11 84 (.bool true) hS3 (fun W hSW=>?_) ?_
          ·(try dsimp only at hSW);(try obtain⟨hSA,hSB,hSC,hSD⟩:=hSW);(try obtain⟨hSA,hSB⟩:=hSW);go_simp<;>omega
          simp only[Act.put,eA,eB,eC];refine qW 12 85 (.bool true) hS3 (fun W hSW=>?_) ?_
          ·(try dsimp only at hSW);(try obtain⟨hSA,hSB,hSC,hSD⟩:=hSW);(try obtain⟨hSA,hSB⟩:=hSW);go_simp<;>omega
          simp only[Act.put,eA,eB,eC];refine wpAnyH_done (by kernel_rfl) ?_ _;go_wp2_with (at_builtin;refine wpList_append_lies _ rfl _ _ _ rfl w2.heap.size 125 i0 _ 2 24 Tryz.underlying38 hi hz0 hz1 hz2 rfl (by decide) _ _ _ rfl ((hownS.alloc _).drew) ⟨ws.heap.size,0,none⟩ 1 1 [.int .i64 xb.1,.string ⟨xb.2.toArray⟩] rfl rfl (fun j u hu=>World.news_of_block (cs:=#[.int .i64 xb.1,.string ⟨xb.2.toArray⟩]) (t:=125) (fr:=(0,0)) (heap_alloc_new ws _) j u hu) (by simp[Value.oneCell']) (by decide) (by simp only[maxLen];omega) (by omega) (by simp;omega) _ rfl ?_;intro g3 cap3 w3' hown3 hgrow hat hlt3);go_roundw
          case rel=>exact⟨i,k+1,r++[z]++[xb],g3,cap3,by omega,by omega,by simp at hol |-;omega,by go_num,by go_num,by simp,by simpa [rQ,uP,qD,sv] using hown3,((BS.alloc hzs _).drew).grown hgrow (by simp;omega) (fun j hj=>(hlS j hj).1),HP.out⟩
          case measure=>simp[intOf];omega
     ·have HM:=Ld (HS.out.trans (lS ordL out hi1 (fun hk=>absurd hk hk1)));have db:decide ((B.length:Int)<=(k:Int))=true:=dT (by omega);clear HS;generalize A[i]=xa at ca cb HM;go_wp2_with fail;refine wp_region_held_drew (S:=fun w'=>w'.cell? ⟨g1,i*2,none⟩=some (.int .i64 xa.1)/\w'.cell? ⟨g1,i*2+1,none⟩=some (.string ⟨xa.2.toArray⟩)) (by kernel_rfl) ⟨ca,cb⟩ (fun hS0=>?_);refine qW 0 39 (.int .i64 (k:Int)) hS0 (fun W hSW=>?_) ?_
      ·(try dsimp only at hSW);(try obtain⟨hSA,hSB,hSC,hSD⟩:=hSW);(try obtain⟨hSA,hSB⟩:=hSW);go_simp<;>omega
      simp only[Act.put,eA,eB,eC];refine qW 1 40 (.slice (some ⟨g2,0,none⟩) B.length c2) hS0 (fun W hSW=>?_) ?_
      ·(try dsimp only at hSW);(try obtain⟨hSA,hSB,hSC,hSD⟩:=hSW);(try obtain⟨hSA,hSB⟩:=hSW);go_simp<;>omega
      simp only[Act.put,eA,eB,eC];refine qW 2 41 (.int .i64 (B.length:Int)) hS0 (fun W hSW=>?_) ?_
      ·(try dsimp only at hSW);(try obtain⟨hSA,hSB,hSC,hSD⟩:=hSW);(try obtain⟨hSA,hSB⟩:=hSW);go_simp<;>omega
      simp only[Act.put,eA,eB,eC];refine qW 3 42 (.bool true) hS0 (fun W hSW=>?_) ?_
      ·(try dsimp only at hSW);(try obtain⟨hSA,hSB,hSC,hSD⟩:=hSW);(try obtain⟨hSA,hSB⟩:=hSW);go_simp<;>omega
      simp only[Act.put,eA,eB,eC];refine qW 4 43 (.bool true) hS0 (fun W hSW=>?_) ?_
      ·(try dsimp only at hSW);(try obtain⟨hSA,hSB,hSC,hSD⟩:=hSW);(try obtain⟨hSA,hSB⟩:=hSW);go_simp<;>omega
      simp only[Act.put,eA,eB,eC];refine qS 5 44 hS0 ?_;simp only[Act.put,eA,eB,eC];refine qS 6 45 hS0 ?_;simp only[Act.put,eA,eB,eC];refine qS 7 46 hS0 ?_;simp only[Act.put,eA,eB,eC];refine qS 8 47 hS0 ?_;simp only[Act.put,eA,eB,eC];refine qS 9 48 hS0 ?_;simp only[Act.put,eA,eB,eC];refine qS 10 49 hS0 ?_;simp only[Act.put,eA,eB,eC];refine qS 11 50 hS0 ?_;simp only[Act.put,eA,eB,eC];refine qS 12 51 hS0 ?_;simp only[Act.put,eA,eB,eC];refine qS 13 52 hS0 ?_;simp only[Act.put,eA,eB,eC];refine qS 14 53 hS0 ?_;simp only[Act.put,eA,eB,eC];refine qS 15 54 hS0 ?_;simp only[Act.put,eA,eB,eC];refine qS 16 55 hS0 ?_;simp only[Act.put,eA,eB,eC];refine qS 17 56 hS0 ?_;simp only[Act.put,eA,eB,eC];refine qS 18 57 hS0 ?_;simp only[Act.put,eA,eB,eC];refine qS 19 58 hS0 ?_;simp only[Act.put,eA,eB,eC];refine qS 20 59 hS0 ?_;simp only[Act.put,eA,eB,eC];refine qW 21 60 (.bool true) hS0 (fun W hSW=>?_) ?_
      ·(try dsimp only at hSW);(try obtain⟨hSA,hSB,hSC,hSD⟩:=hSW);(try obtain⟨hSA,hSB⟩:=hSW);go_simp<;>omega
      simp only[Act.put,eA,eB,eC];refine wpAnyH_done (by kernel_rfl) ?_ _;have hownv:=hownA.drew;have Bv:=BA.drew;have v0:(wr.alloc (.cells #[.int .i64 0,.string ⟨#[]⟩] 125)).drew.cell? ⟨wr.heap.size,0,none⟩=some (.int .i64 0):=n0;have v1:(wr.alloc (.cells #[.int .i64 0,.string ⟨#[]⟩] 125)).drew.cell? ⟨wr.heap.size,1,none⟩=some (.string ⟨#[]⟩):=n1;have z0:(wr.alloc (.cells #[.int .i64 0,.string ⟨#[]⟩] 125)).drew.frozen? ⟨wr.heap.size,0,none⟩=false:=y0;have z1:(wr.alloc (.cells #[.int .i64 0,.string ⟨#[]⟩] 125)).drew.frozen? ⟨wr.heap.size,1,none⟩=false:=y1;have cav:(wr.alloc (.cells #[.int .i64 0,.string ⟨#[]⟩] 125)).drew.cell? ⟨g1,i*2,none⟩=some (.int .i64 xa.1):=ca;have cbv:(wr.alloc (.cells #[.int .i64 0,.string ⟨#[]⟩] 125)).drew.cell? ⟨g1,i*2+1,none⟩=some (.string ⟨xa.2.toArray⟩):=cb;clear hS0 ca cb n0 n1 y0 y1 BA hownA;generalize (wr.alloc (.cells #[.int .i64 0,.string ⟨#[]⟩] 125)).drew=wv at hownv Bv v0 v1 z0 z1 cav cbv;go_wp2_with fail;have hownS:=ownsRow_setCell_other (ownsRow_setCell_other hownv (a:=⟨wr.heap.size,0,none⟩) hgv (.int .i64 xa.1)) (a:=⟨wr.heap.size,1,none⟩) hgv (.string ⟨xa.2.toArray⟩);have BS:=(Bv.setCell (p:=⟨wr.heap.size,0,none⟩) hzz (.int .i64 xa.1)).setCell (p:=⟨wr.heap.size,1,none⟩) hzz (.string ⟨xa.2.toArray⟩);have s0:((wv.setCell ⟨wr.heap.size,0,none⟩ (.int .i64 xa.1)).setCell ⟨wr.heap.size,1,none⟩ (.string ⟨xa.2.toArray⟩)).cell? ⟨wr.heap.size,0,none⟩=some (.int .i64 xa.1):=by simp[World.cell?_setCell_other,World.cell?_setCell_same,v0]
      have s1:((wv.setCell ⟨wr.heap.size,0,none⟩ (.int .i64 xa.1)).setCell ⟨wr.heap.size,1,none⟩ (.string ⟨xa.2.toArray⟩)).cell? ⟨wr.heap.size,1,none⟩=some (.string ⟨xa.2.toArray⟩):=(by simp[World.cell?_setCell_other,World.cell?_setCell_same,v1]);generalize (wv.setCell ⟨wr.heap.size,0,none⟩ (.int .i64 xa.1)).setCell ⟨wr.heap.size,1,none⟩ (.string ⟨xa.2.toArray⟩)=ws at hownS BS s0 s1;have hzs:=BS.size;have hlS:=hownS.lt;clear hownv Bv v0 v1 z0 z1 cav cbv hgv;rcases List.eq_nil_or_concat out with hout|⟨r,z,hout⟩
      ·subst hout;have HP:=Ld (HM.out.trans (by rw[gC]));clear HM;refine wp_region_held_drew (S:=fun w'=>w'.cell? ⟨wr.heap.size,0,none⟩=some (.int .i64 xa.1)/\w'.cell? ⟨wr.heap.size,1,none⟩=some (.string ⟨xa.2.toArray⟩)) (by kernel_rfl) ⟨s0,s1⟩ (fun hS3=>?_);refine qW 0 73 (.slice (some ⟨g,0,none⟩) 0 cp) hS3 (fun W hSW=>?_) ?_
       ·(try dsimp only at hSW);(try obtain⟨hSA,hSB,hSC,hSD⟩:=hSW);(try obtain⟨hSA,hSB⟩:=hSW);go_simp<;>omega
       simp only[Act.put,eA,eB,eC];refine qW 1 74 (.int .i64 0) hS3 (fun W hSW=>?_) ?_
       ·(try dsimp only at hSW);(try obtain⟨hSA,hSB,hSC,hSD⟩:=hSW);(try obtain⟨hSA,hSB⟩:=hSW);go_simp<;>omega
       simp only[Act.put,eA,eB,eC];refine qW 2 75 (.bool true) hS3 (fun W hSW=>?_) ?_
       ·(try dsimp only at hSW);(try obtain⟨hSA,hSB,hSC,hSD⟩:=hSW);(try obtain⟨hSA,hSB⟩:=hSW);go_simp<;>omega
       simp only[Act.put,eA,eB,eC];refine qW 3 76 (.bool true) hS3 (fun W hSW=>?_) ?_
       ·(try dsimp only at hSW);(try obtain⟨hSA,hSB,hSC,hSD⟩:=hSW);(try obtain⟨hSA,hSB⟩:=hSW);go_simp<;>omega
       simp only[Act.put,eA,eB,eC];refine qS 4 77 hS3 ?_;simp only[Act.put,eA,eB,eC];refine qS 5 78 hS3 ?_;simp only[Act.put,eA,eB,eC];refine qS 6 79 hS3 ?_;simp only[Act.put,eA,eB,eC];refine qS 7 80 hS3 ?_;simp only[Act.put,eA,eB,eC];refine qS 8 81 hS3 ?_;simp only[Act.put,eA,eB,eC];refine qS 9 82 hS3 ?_;simp only[Act.put,eA,eB,eC];refine qS 10 83 hS3 ?_;simp only[Act.put,eA,eB,eC];refine qS 11 84 hS3 ?_;simp only[Act.put,eA,eB,eC];refine qW 12 85 (.bool true) hS3 (fun W hSW=>?_) ?_
       ·(try dsimp only at hSW);(try obtain⟨hSA,hSB,hSC,hSD⟩:=hSW);(try obtain⟨hSA,hSB⟩:=hSW);go_simp<;>omega
       simp only[Act.put,eA,eB,eC];refine wpAnyH_done (by kernel_rfl) ?_ _;go_wp2_with (at_builtin;refine wpList_append_lies _ rfl _ _ _ rfl w2.heap.size 125 i0 _ 2 24 Tryz.underlying38 hi hz0 hz1 hz2 rfl (by decide) _ _ _ rfl ((hownS.alloc _).drew) ⟨ws.heap.size,0,none⟩ 1 1 [.int .i64 xa.1,.string ⟨xa.2.toArray⟩] rfl rfl (fun j u hu=>World.news_of_block (cs:=#[.int .i64 xa.1,.string ⟨xa.2.toArray⟩]) (t:=125) (fr:=(0,0)) (heap_alloc_new ws _) j u hu) (by simp[Value.oneCell']) (by decide) (by simp only[maxLen];omega) (by omega) (by simp;omega) _ rfl ?_;intro g3 cap3 w3' hown3 hgrow hat hlt3);go_roundw
       case rel=>exact⟨i+1,k,[xa],g3,cap3,by omega,by omega,by simp only[List.length_singleton];omega,by go_num,by go_num,rfl,by simpa [uP,qD,sv] using hown3,((BS.alloc hzs _).drew).grown hgrow (by simp;omega) (fun j hj=>(hlS j hj).1),HP.out⟩
       case measure=>simp[intOf];omega
      ·rw[List.concat_eq_append] at hout;subst hout;obtain⟨ea,eb⟩:=qO (l:=r++[z]) (j:=r.length) (by simp);have cz0:=(hownS.cellAt (r.length*2) (by simp only[lA,List.length_singleton];omega)).trans ea;have cz1:=(hownS.cellAt (r.length*2+1) (by simp only[lA,List.length_singleton];omega)).trans eb;simp only[List.getElem_concat_length,sv] at cz0 cz1;have dz:(((r.length:Int)+1)==0)=false:=(by rw[bF];omega);have rl:r.length+1<=4194304:=(by simp at bn;omega);have qz0:(0:Int)<=(r.length:Int):=(by omega);have qz1:(r.length:Int)<(r.length:Int)+1:=(by omega);have qz2:IntKind.i64.wrap (r.length:Int)=(r.length:Int):=(by rw[IntKind.wrap_i64];omega);clear ea eb;by_cases hzx:z=xa
       ·subst hzx;have HP:=Ld (HM.out.trans (by rw[lQ]));have HO:=Ld hownS;clear HM hownS;refine wp_region_held_drew (S:=fun w'=>w'.cell? ⟨wr.heap.size,0,none⟩=some (.int .i64 z.1)/\w'.cell? ⟨wr.heap.size,1,none⟩=some (.string ⟨z.2.toArray⟩)/\w'.cell? ⟨g,r.length*2,none⟩=some (.int .i64 z.1)/\w'.cell? ⟨g,r.length*2+1,none⟩=some (.string ⟨z.2.toArray⟩)) (by kernel_rfl) ⟨s0,s1,cz0,cz1⟩ (fun hS3=>?_);refine qW 0 73 (.slice (some ⟨g,0,none⟩) (r.length+1) cp) hS3 (fun W hSW=>?_) ?_
        ·(try dsimp only at hSW);(try obtain⟨hSA,hSB,hSC,hSD⟩:=hSW);(try obtain⟨hSA,hSB⟩:=hSW);go_simp<;>omega
        simp only[Act.put,eA,eB,eC];refine qW 1 74 (.int .i64 ((r.length:Int)+1)) hS3 (fun W hSW=>?_) ?_
        ·(try dsimp only at hSW);(try obtain⟨hSA,hSB,hSC,hSD⟩:=hSW);(try obtain⟨hSA,hSB⟩:=hSW);go_simp<;>omega
        simp only[Act.put,eA,eB,eC];refine qW 2 75 (.bool false) hS3 (fun W hSW=>?_) ?_
        ·(try dsimp only at hSW);(try obtain⟨hSA,hSB,hSC,hSD⟩:=hSW);(try obtain⟨hSA,hSB⟩:=hSW);go_simp<;>omega
        simp only[Act.put,eA,eB,eC];refine qW 3 76 (.bool false) hS3 (fun W hSW=>?_) ?_
        ·(try dsimp only at hSW);(try obtain⟨hSA,hSB,hSC,hSD⟩:=hSW);(try obtain⟨hSA,hSB⟩:=hSW);go_simp<;>omega
        simp only[Act.put,eA,eB,eC];refine qW 4 77 (.slice (some ⟨g,0,none⟩) (r.length+1) cp) hS3 (fun W hSW=>?_) ?_
        ·(try dsimp only at hSW);(try obtain⟨hSA,hSB,hSC,hSD⟩:=hSW);(try obtain⟨hSA,hSB⟩:=hSW);go_simp<;>omega
        simp only[Act.put,eA,eB,eC];refine qW 5 78 (.slice (some ⟨g,0,none⟩) (r.length+1) cp) hS3 (fun W hSW=>?_) ?_
        ·(try dsimp only at hSW);(try obtain⟨hSA,hSB,hSC,hSD⟩:=hSW);(try obtain⟨hSA,hSB⟩:=hSW);go_simp<;>omega
        simp only[Act.put,eA,eB,eC];refine qW 6 79 (.int .i64 ((r.length:Int)+1)) hS3 (fun W hSW=>?_) ?_
        ·(try dsimp only at hSW);(try obtain⟨hSA,hSB,hSC,hSD⟩:=hSW);(try obtain⟨hSA,hSB⟩:=hSW);go_simp<;>omega
        simp only[Act.put,eA,eB,eC];refine qW 7 80 (.int .i64 (r.length:Int)) hS3 (fun W hSW=>?_) ?_
        ·(try dsimp only at hSW);(try obtain⟨hSA,hSB,hSC,hSD⟩:=hSW);(try obtain⟨hSA,hSB⟩:=hSW);go_simp<;>omega
        simp only[Act.put,eA,eB,eC];refine qW 8 81 (.pointer (some ⟨g,r.length*2,none⟩)) hS3 (fun W hSW=>?_) ?_
        ·(try dsimp only at hSW);(try obtain⟨hSA,hSB,hSC,hSD⟩:=hSW);(try obtain⟨hSA,hSB⟩:=hSW);go_simp<;>omega
        simp only[Act.put,eA,eB,eC];refine qW 9 82 (.agg #[.int .i64 z.1,.string ⟨z.2.toArray⟩]) hS3 (fun W hSW=>?_) ?_
        ·(try dsimp only at hSW);(try obtain⟨hSA,hSB,hSC,hSD⟩:=hSW);(try obtain⟨hSA,hSB⟩:=hSW);go_simp<;>omega
        simp only[Act.put,eA,eB,eC];refine qW 10 83 (.agg #[.int .i64 z.1,.string ⟨z.2.toArray⟩]) hS3 (fun W hSW=>?_) ?_
        ·(try dsimp only at hSW);(try obtain⟨hSA,hSB,hSC,hSD⟩:=hSW);(try obtain⟨hSA,hSB⟩:=hSW);go_simp<;>omega
        simp only[Act.put,eA,eB,eC];refine qW 11 84 (.bool false) hS3 (fun W hSW=>?_) ?_
        ·(try dsimp only at hSW);(try obtain⟨hSA,hSB,hSC,hSD⟩:=hSW);(try obtain⟨hSA,hSB⟩:=hSW);go_simp<;>omega
        simp only[Act.put,eA,eB,eC];refine qW 12 85 (.bool false) hS3 (fun W hSW=>?_) ?_
        ·(try dsimp only at hSW);(try obtain⟨hSA,hSB,hSC,hSD⟩:=hSW);(try obtain⟨hSA,hSB⟩:=hSW);go_simp<;>omega
        simp only[Act.put,eA,eB,eC];refine wpAnyH_done (by kernel_rfl) ?_ _;go_wp2;go_roundw
        case rel=>exact⟨i+1,k,r++[z],g,cp,by omega,by omega,by simp at hol |-;omega,by go_num,by go_num,by simp,HO.out,BS.drew,HP.out⟩
        case measure=>simp[intOf];omega
       ·have HP:=Ld (HM.out.trans (by rw[nT hzx]));clear HM;have hne:(z.1==xa.1)=false\/((z.1==xa.1)=true/\(z.2==xa.2)=false):=by
         by_cases e:z.1=xa.1
         ·exact .inr ⟨by rw[beq_iff_eq];exact e,by rw[bF];exact fun e2=>hzx (Prod.ext e e2)⟩
         ·exact .inl (by rw[bF];exact e)
        clear hzx;rcases hne with hne|⟨hne,hne2⟩
        all_goals
         refine wp_region_held_drew (S:=fun w'=>w'.cell? ⟨wr.heap.size,0,none⟩=some (.int .i64 xa.1)/\w'.cell? ⟨wr.heap.size,1,none⟩=some (.string ⟨xa.2.toArray⟩)/\w'.cell? ⟨g,r.length*2,none⟩=some (.int .i64 z.1)/\w'.cell? ⟨g,r.length*2+1,none⟩=some (.string ⟨z.2.toArray⟩)) (by kernel_rfl) ⟨s0,s1,cz0,cz1⟩ (fun hS3=>?_);refine qW 0 73 (.slice (some ⟨g,0,none⟩) (r.length+1) cp) hS3 (fun W hSW=>?_) ?_
         ·(try dsimp only at hSW);(try obtain⟨hSA,hSB,hSC,hSD⟩:=hSW);(try obtain⟨hSA,hSB⟩:=hSW);go_simp<;>omega
         simp only[Act.put,eA,eB,eC];refine qW 1 74 (.int .i64 ((r.length:Int)+1)) hS3 (fun W hSW=>?_) ?_
         ·(try dsimp only at hSW);(try obtain⟨hSA,hSB,hSC,hSD⟩:=hSW);(try obtain⟨hSA,hSB⟩:=hSW);go_simp<;>omega
         simp only[Act.put,eA,eB,eC];refine qW 2 75 (.bool false) hS3 (fun W hSW=>?_) ?_
         ·(try dsimp only at hSW);(try obtain⟨hSA,hSB,hSC,hSD⟩:=hSW);(try obtain⟨hSA,hSB⟩:=hSW);go_simp<;>omega
         simp only[Act.put,eA,eB,eC];refine qW 3 76 (.bool false) hS3 (fun W hSW=>?_) ?_
         ·(try dsimp only at hSW);(try obtain⟨hSA,hSB,hSC,hSD⟩:=hSW);(try obtain⟨hSA,hSB⟩:=hSW);go_simp<;>omega
         simp only[Act.put,eA,eB,eC];refine qW 4 77 (.slice (some ⟨g,0,none⟩) (r.length+1) cp) hS3 (fun W hSW=>?_) ?_
         ·(try dsimp only at hSW);(try obtain⟨hSA,hSB,hSC,hSD⟩:=hSW);(try obtain⟨hSA,hSB⟩:=hSW);go_simp<;>omega
         simp only[Act.put,eA,eB,eC];refine qW 5 78 (.slice (some ⟨g,0,none⟩) (r.length+1) cp) hS3 (fun W hSW=>?_) ?_
         ·(try dsimp only at hSW);(try obtain⟨hSA,hSB,hSC,hSD⟩:=hSW);(try obtain⟨hSA,hSB⟩:=hSW);go_simp<;>omega
         simp only[Act.put,eA,eB,eC];refine qW 6 79 (.int .i64 ((r.length:Int)+1)) hS3 (fun W hSW=>?_) ?_
         ·(try dsimp only at hSW);(try obtain⟨hSA,hSB,hSC,hSD⟩:=hSW);(try obtain⟨hSA,hSB⟩:=hSW);go_simp<;>omega
         simp only[Act.put,eA,eB,eC];refine qW 7 80 (.int .i64 (r.length:Int)) hS3 (fun W hSW=>?_) ?_
         ·(try dsimp only at hSW);(try obtain⟨hSA,hSB,hSC,hSD⟩:=hSW);(try obtain⟨hSA,hSB⟩:=hSW);go_simp<;>omega
         simp only[Act.put,eA,eB,eC];refine qW 8 81 (.pointer (some ⟨g,r.length*2,none⟩)) hS3 (fun W hSW=>?_) ?_
         ·(try dsimp only at hSW);(try obtain⟨hSA,hSB,hSC,hSD⟩:=hSW);(try obtain⟨hSA,hSB⟩:=hSW);go_simp<;>omega
         simp only[Act.put,eA,eB,eC];refine qW 9 82 (.agg #[.int .i64 z.1,.string ⟨z.2.toArray⟩]) hS3 (fun W hSW=>?_) ?_
         ·(try dsimp only at hSW);(try obtain⟨hSA,hSB,hSC,hSD⟩:=hSW);(try obtain⟨hSA,hSB⟩:=hSW);go_simp<;>omega
         simp only[Act.put,eA,eB,eC];refine qW 10 83 (.agg #[.int .i64 xa.1,.string ⟨xa.2.toArray⟩]) hS3 (fun W hSW=>?_) ?_
         ·(try dsimp only at hSW);(try obtain⟨hSA,hSB,hSC,hSD⟩:=hSW);(try obtain⟨hSA,hSB⟩:=hSW);go_simp<;>omega
         simp only[Act.put,eA,eB,eC];refine qW 11 84 (.bool true) hS3 (fun W hSW=>?_) ?_
         ·(try dsimp only at hSW);(try obtain⟨hSA,hSB,hSC,hSD⟩:=hSW);(try obtain⟨hSA,hSB⟩:=hSW);go_simp<;>omega
         simp only[Act.put,eA,eB,eC];refine qW 12 85 (.bool true) hS3 (fun W hSW=>?_) ?_
         ·(try dsimp only at hSW);(try obtain⟨hSA,hSB,hSC,hSD⟩:=hSW);(try obtain⟨hSA,hSB⟩:=hSW);go_simp<;>omega
         simp only[Act.put,eA,eB,eC];refine wpAnyH_done (by kernel_rfl) ?_ _;go_wp2_with (at_builtin;refine wpList_append_lies _ rfl _ _ _ rfl w2.heap.size 125 i0 _ 2 24 Tryz.underlying38 hi hz0 hz1 hz2 rfl (by decide) _ _ _ rfl ((hownS.alloc _).drew) ⟨ws.heap.size,0,none⟩ 1 1 [.int .i64 xa.1,.string ⟨xa.2.toArray⟩] rfl rfl (fun j u hu=>World.news_of_block (cs:=#[.int .i64 xa.1,.string ⟨xa.2.toArray⟩]) (t:=125) (fr:=(0,0)) (heap_alloc_new ws _) j u hu) (by simp[Value.oneCell']) (by decide) (by simp only[maxLen];omega) (by omega) (by simp;omega) _ rfl ?_;intro g3 cap3 w3' hown3 hgrow hat hlt3);go_roundw
         case rel=>exact⟨i+1,k,r++[z]++[xa],g3,cap3,by omega,by omega,by simp at hol |-;omega,by go_num,by go_num,by simp,by simpa [rQ,uP,qD,sv] using hown3,((BS.alloc hzs _).drew).grown hgrow (by simp;omega) (fun j hj=>(hlS j hj).1),HP.out⟩
         case measure=>simp[intOf];omega
    ·have da:decide ((i:Int)<(A.length:Int))=false:=dF (by omega);by_cases hk1:k<B.length
     ·obtain⟨fa,fb⟩:=qO hk1;have ca:=(BA.cell (p:=⟨g2,k*2,none⟩) hg2).trans ((ho2.cellAt (k*2) (by omega)).trans fa);have cb:=(BA.cell (p:=⟨g2,k*2+1,none⟩) hg2).trans ((ho2.cellAt (k*2+1) (by omega)).trans fb);unfold sv at cb;clear fa fb;have qb1:=zn k;have qb2:(k:Int)<(B.length:Int):=(by omega);have db:decide ((B.length:Int)<=(k:Int))=false:=dF (by omega);have db2:decide ((k:Int)<(B.length:Int))=true:=dT (by omega);have HM:=Ld (HS.out.trans (oW ordL out hk1 (fun hi=>absurd hi hi1)));clear HS;generalize B[k]=xb at ca cb HM;go_wp2_with fail;refine wp_region_held_drew (S:=fun w'=>w'.cell? ⟨g2,k*2,none⟩=some (.int .i64 xb.1)/\w'.cell? ⟨g2,k*2+1,none⟩=some (.string ⟨xb.2.toArray⟩)) (by kernel_rfl) ⟨ca,cb⟩ (fun hS0=>?_);refine qW 0 39 (.int .i64 (k:Int)) hS0 (fun W hSW=>?_) ?_
      ·(try dsimp only at hSW);(try obtain⟨hSA,hSB,hSC,hSD⟩:=hSW);(try obtain⟨hSA,hSB⟩:=hSW);go_simp<;>omega
      simp only[Act.put,eA,eB,eC];refine qW 1 40 (.slice (some ⟨g2,0,none⟩) B.length c2) hS0 (fun W hSW=>?_) ?_
      ·(try dsimp only at hSW);(try obtain⟨hSA,hSB,hSC,hSD⟩:=hSW);(try obtain⟨hSA,hSB⟩:=hSW);go_simp<;>omega
      simp only[Act.put,eA,eB,eC];refine qW 2 41 (.int .i64 (B.length:Int)) hS0 (fun W hSW=>?_) ?_
      ·(try dsimp only at hSW);(try obtain⟨hSA,hSB,hSC,hSD⟩:=hSW);(try obtain⟨hSA,hSB⟩:=hSW);go_simp<;>omega
      simp only[Act.put,eA,eB,eC];refine qW 3 42 (.bool false) hS0 (fun W hSW=>?_) ?_
      ·(try dsimp only at hSW);(try obtain⟨hSA,hSB,hSC,hSD⟩:=hSW);(try obtain⟨hSA,hSB⟩:=hSW);go_simp<;>omega
      simp only[Act.put,eA,eB,eC];refine qW 4 43 (.bool false) hS0 (fun W hSW=>?_) ?_
      ·(try dsimp only at hSW);(try obtain⟨hSA,hSB,hSC,hSD⟩:=hSW);(try obtain⟨hSA,hSB⟩:=hSW);go_simp<;>omega
      simp only[Act.put,eA,eB,eC];refine qW 5 44 (.int .i64 (i:Int)) hS0 (fun W hSW=>?_) ?_
      ·(try dsimp only at hSW);(try obtain⟨hSA,hSB,hSC,hSD⟩:=hSW);(try obtain⟨hSA,hSB⟩:=hSW);go_simp<;>omega
      simp only[Act.put,eA,eB,eC];refine qW 6 45 (.slice (some ⟨g1,0,none⟩) A.length c1) hS0 (fun W hSW=>?_) ?_
      ·(try dsimp only at hSW);(try obtain⟨hSA,hSB,hSC,hSD⟩:=hSW);(try obtain⟨hSA,hSB⟩:=hSW);go_simp<;>omega
      simp only[Act.put,eA,eB,eC];refine qW 7 46 (.int .i64 (A.length:Int)) hS0 (fun W hSW=>?_) ?_
      ·(try dsimp only at hSW);(try obtain⟨hSA,hSB,hSC,hSD⟩:=hSW);(try obtain⟨hSA,hSB⟩:=hSW);go_simp<;>omega
      simp only[Act.put,eA,eB,eC];refine qW 8 47 (.bool false) hS0 (fun W hSW=>?_) ?_
      ·(try dsimp only at hSW);(try obtain⟨hSA,hSB,hSC,hSD⟩:=hSW);(try obtain⟨hSA,hSB⟩:=hSW);go_simp<;>omega
      simp only[Act.put,eA,eB,eC];refine qW 9 48 (.bool false) hS0 (fun W hSW=>?_) ?_
      ·(try dsimp only at hSW);(try obtain⟨hSA,hSB,hSC,hSD⟩:=hSW);(try obtain⟨hSA,hSB⟩:=hSW);go_simp<;>omega
      simp only[Act.put,eA,eB,eC];refine qS 10 49 hS0 ?_;simp only[Act.put,eA,eB,eC];refine qS 11 50 hS0 ?_;simp only[Act.put,eA,eB,eC];refine qS 12 51 hS0 ?_;simp only[Act.put,eA,eB,eC];refine qS 13 52 hS0 ?_;simp only[Act.put,eA,eB,eC];refine qS 14 53 hS0 ?_;simp only[Act.put,eA,eB,eC];refine qS 15 54 hS0 ?_;simp only[Act.put,eA,eB,eC];refine qS 16 55 hS0 ?_;simp only[Act.put,eA,eB,eC];refine qS 17 56 hS0 ?_;simp only[Act.put,eA,eB,eC];refine qS 18 57 hS0 ?_;simp only[Act.put,eA,eB,eC];refine qS 19 58 hS0 ?_;simp only[Act.put,eA,eB,eC];refine qW 20 59 (.bool false) hS0 (fun W hSW=>?_) ?_
      ·(try dsimp only at hSW);(try obtain⟨hSA,hSB,hSC,hSD⟩:=hSW);(try obtain⟨hSA,hSB⟩:=hSW);go_simp<;>omega
      simp only[Act.put,eA,eB,eC];refine qW 21 60 (.bool false) hS0 (fun W hSW=>?_) ?_
      ·(try dsimp only at hSW);(try obtain⟨hSA,hSB,hSC,hSD⟩:=hSW);(try obtain⟨hSA,hSB⟩:=hSW);go_simp<;>omega
      simp only[Act.put,eA,eB,eC];refine wpAnyH_done (by kernel_rfl) ?_ _;have hownv:=hownA.drew;have Bv:=BA.drew;have v0:(wr.alloc (.cells #[.int .i64 0,.string ⟨#[]⟩] 125)).drew.cell? ⟨wr.heap.size,0,none⟩=some (.int .i64 0):=n0;have v1:(wr.alloc (.cells #[.int .i64 0,.string ⟨#[]⟩] 125)).drew.cell? ⟨wr.heap.size,1,none⟩=some (.string ⟨#[]⟩):=n1;have z0:(wr.alloc (.cells #[.int .i64 0,.string ⟨#[]⟩] 125)).drew.frozen? ⟨wr.heap.size,0,none⟩=false:=y0;have z1:(wr.alloc (.cells #[.int .i64 0,.string ⟨#[]⟩] 125)).drew.frozen? ⟨wr.heap.size,1,none⟩=false:=y1;have cav:(wr.alloc (.cells #[.int .i64 0,.string ⟨#[]⟩] 125)).drew.cell? ⟨g2,k*2,none⟩=some (.int .i64 xb.1):=ca;have cbv:(wr.alloc (.cells #[.int .i64 0,.string ⟨#[]⟩] 125)).drew.cell? ⟨g2,k*2+1,none⟩=some (.string ⟨xb.2.toArray⟩):=cb;clear hS0 ca cb n0 n1 y0 y1 BA hownA;generalize (wr.alloc (.cells #[.int .i64 0,.string ⟨#[]⟩] 125)).drew=wv at hownv Bv v0 v1 z0 z1 cav cbv;go_wp2_with fail;have hownS:=ownsRow_setCell_other (ownsRow_setCell_other hownv (a:=⟨wr.heap.size,0,none⟩) hgv (.int .i64 xb.1)) (a:=⟨wr.heap.size,1,none⟩) hgv (.string ⟨xb.2.toArray⟩);have BS:=(Bv.setCell (p:=⟨wr.heap.size,0,none⟩) hzz (.int .i64 xb.1)).setCell (p:=⟨wr.heap.size,1,none⟩) hzz (.string ⟨xb.2.toArray⟩);have s0:((wv.setCell ⟨wr.heap.size,0,none⟩ (.int .i64 xb.1)).setCell ⟨wr.heap.size,1,none⟩ (.string ⟨xb.2.toArray⟩)).cell? ⟨wr.heap.size,0,none⟩=some (.int .i64 xb.1):=by simp[World.cell?_setCell_other,World.cell?_setCell_same,v0]
      have s1:((wv.setCell ⟨wr.heap.size,0,none⟩ (.int .i64 xb.1)).setCell ⟨wr.heap.size,1,none⟩ (.string ⟨xb.2.toArray⟩)).cell? ⟨wr.heap.size,1,none⟩=some (.string ⟨xb.2.toArray⟩):=(by simp[World.cell?_setCell_other,World.cell?_setCell_same,v1]);generalize (wv.setCell ⟨wr.heap.size,0,none⟩ (.int .i64 xb.1)).setCell ⟨wr.heap.size,1,none⟩ (.string ⟨xb.2.toArray⟩)=ws at hownS BS s0 s1;have hzs:=BS.size;have hlS:=hownS.lt;clear hownv Bv v0 v1 z0 z1 cav cbv hgv;rcases List.eq_nil_or_concat out with hout|⟨r,z,hout⟩
      ·subst hout;have HP:=Ld (HM.out.trans (by rw[gC]));clear HM;refine wp_region_held_drew (S:=fun w'=>w'.cell? ⟨wr.heap.size,0,none⟩=some (.int .i64 xb.1)/\w'.cell? ⟨wr.heap.size,1,none⟩=some (.string ⟨xb.2.toArray⟩)) (by kernel_rfl) ⟨s0,s1⟩ (fun hS3=>?_);refine qW 0 73 (.slice (some ⟨g,0,none⟩) 0 cp) hS3 (fun W hSW=>?_) ?_
       ·(try dsimp only at hSW);(try obtain⟨hSA,hSB,hSC,hSD⟩:=hSW);(try obtain⟨hSA,hSB⟩:=hSW);go_simp<;>omega
       simp only[Act.put,eA,eB,eC];refine qW 1 74 (.int .i64 0) hS3 (fun W hSW=>?_) ?_
       ·(try dsimp only at hSW);(try obtain⟨hSA,hSB,hSC,hSD⟩:=hSW);(try obtain⟨hSA,hSB⟩:=hSW);go_simp<;>omega
       simp only[Act.put,eA,eB,eC];refine qW 2 75 (.bool true) hS3 (fun W hSW=>?_) ?_
       ·(try dsimp only at hSW);(try obtain⟨hSA,hSB,hSC,hSD⟩:=hSW);(try obtain⟨hSA,hSB⟩:=hSW);go_simp<;>omega
       simp only[Act.put,eA,eB,eC];refine qW 3 76 (.bool true) hS3 (fun W hSW=>?_) ?_
       ·(try dsimp only at hSW);(try obtain⟨hSA,hSB,hSC,hSD⟩:=hSW);(try obtain⟨hSA,hSB⟩:=hSW);go_simp<;>omega
       simp only[Act.put,eA,eB,eC];refine qS 4 77 hS3 ?_;simp only[Act.put,eA,eB,eC];refine qS 5 78 hS3 ?_;simp only[Act.put,eA,eB,eC];refine qS 6 79 hS3 ?_;simp only[Act.put,eA,eB,eC];refine qS 7 80 hS3 ?_;simp only[Act.put,eA,eB,eC];refine qS 8 81 hS3 ?_;simp only[Act.put,eA,eB,eC];refine qS 9 82 hS3 ?_;simp only[Act.put,eA,eB,eC];refine qS 10 83 hS3 ?_;simp only[Act.put,eA,eB,eC];refine qS 11 84 hS3 ?_;simp only[Act.put,eA,eB,eC];refine qW 12 85 (.bool true) hS3 (fun W hSW=>?_) ?_
       ·(try dsimp only at hSW);(try obtain⟨hSA,hSB,hSC,hSD⟩:=hSW);(try obtain⟨hSA,hSB⟩:=hSW);go_simp<;>omega
       simp only[Act.put,eA,eB,eC];refine wpAnyH_done (by kernel_rfl) ?_ _;go_wp2_with (at_builtin;refine wpList_append_lies _ rfl _ _ _ rfl w2.heap.size 125 i0 _ 2 24 Tryz.underlying38 hi hz0 hz1 hz2 rfl (by decide) _ _ _ rfl ((hownS.alloc _).drew) ⟨ws.heap.size,0,none⟩ 1 1 [.int .i64 xb.1,.string ⟨xb.2.toArray⟩] rfl rfl (fun j u hu=>World.news_of_block (cs:=#[.int .i64 xb.1,.string ⟨xb.2.toArray⟩]) (t:=125) (fr:=(0,0)) (heap_alloc_new ws _) j u hu) (by simp[Value.oneCell']) (by decide) (by simp only[maxLen];omega) (by omega) (by simp;omega) _ rfl ?_;intro g3 cap3 w3' hown3 hgrow hat hlt3);go_roundw
       case rel=>exact⟨i,k+1,[xb],g3,cap3,by omega,by omega,by simp only[List.length_singleton];omega,by go_num,by go_num,rfl,by simpa [uP,qD,sv] using hown3,((BS.alloc hzs _).drew).grown hgrow (by simp;omega) (fun j hj=>(hlS j hj).1),HP.out⟩
       case measure=>simp[intOf];omega
      ·rw[List.concat_eq_append] at hout;subst hout;obtain⟨ea,eb⟩:=qO (l:=r++[z]) (j:=r.length) (by simp);have cz0:=(hownS.cellAt (r.length*2) (by simp only[lA,List.length_singleton];omega)).trans ea;have cz1:=(hownS.cellAt (r.length*2+1) (by simp only[lA,List.length_singleton];omega)).trans eb;simp only[List.getElem_concat_length,sv] at cz0 cz1;have dz:(((r.length:Int)+1)==0)=false:=(by rw[bF];omega);have rl:r.length+1<=4194304:=(by simp at bn;omega);have qz0:(0:Int)<=(r.length:Int):=(by omega);have qz1:(r.length:Int)<(r.length:Int)+1:=(by omega);have qz2:IntKind.i64.wrap (r.length:Int)=(r.length:Int):=(by rw[IntKind.wrap_i64];omega);clear ea eb;by_cases hzx:z=xb
       ·subst hzx;have HP:=Ld (HM.out.trans (by rw[lQ]));have HO:=Ld hownS;clear HM hownS;refine wp_region_held_drew (S:=fun w'=>w'.cell? ⟨wr.heap.size,0,none⟩=some (.int .i64 z.1)/\w'.cell? ⟨wr.heap.size,1,none⟩=some (.string ⟨z.2.toArray⟩)/\w'.cell? ⟨g,r.length*2,none⟩=some (.int .i64 z.1)/\w'.cell? ⟨g,r.length*2+1,none⟩=some (.string ⟨z.2.toArray⟩)) (by kernel_rfl) ⟨s0,s1,cz0,cz1⟩ (fun hS3=>?_);refine qW 0 73 (.slice (some ⟨g,0,none⟩) (r.length+1) cp) hS3 (fun W hSW=>?_) ?_
        ·(try dsimp only at hSW);(try obtain⟨hSA,hSB,hSC,hSD⟩:=hSW);(try obtain⟨hSA,hSB⟩:=hSW);go_simp<;>omega
        simp only[Act.put,eA,eB,eC];refine qW 1 74 (.int .i64 ((r.length:Int)+1)) hS3 (fun W hSW=>?_) ?_
        ·(try dsimp only at hSW);(try obtain⟨hSA,hSB,hSC,hSD⟩:=hSW);(try obtain⟨hSA,hSB⟩:=hSW);go_simp<;>omega
        simp only[Act.put,eA,eB,eC];refine qW 2 75 (.bool false) hS3 (fun W hSW=>?_) ?_
        ·(try dsimp only at hSW);(try obtain⟨hSA,hSB,hSC,hSD⟩:=hSW);(try obtain⟨hSA,hSB⟩:=hSW);go_simp<;>omega
        simp only[Act.put,eA,eB,eC];refine qW 3 76 (.bool false) hS3 (fun W hSW=>?_) ?_
        ·(try dsimp only at hSW);(try obtain⟨hSA,hSB,hSC,hSD⟩:=hSW);(try obtain⟨hSA,hSB⟩:=hSW);go_simp<;>omega
        simp only[Act.put,eA,eB,eC];refine qW 4 77 (.slice (some ⟨g,0,none⟩) (r.length+1) cp) hS3 (fun W hSW=>?_) ?_
        ·(try dsimp only at hSW);(try obtain⟨hSA,hSB,hSC,hSD⟩:=hSW);(try obtain⟨hSA,hSB⟩:=hSW);go_simp<;>omega
        simp only[Act.put,eA,eB,eC];refine qW 5 78 (.slice (some ⟨g,0,none⟩) (r.length+1) cp) hS3 (fun W hSW=>?_) ?_
        ·(try dsimp only at hSW);(try obtain⟨hSA,hSB,hSC,hSD⟩:=hSW);(try obtain⟨hSA,hSB⟩:=hSW);go_simp<;>omega
        simp only[Act.put,eA,eB,eC];refine qW 6 79 (.int .i64 ((r.length:Int)+1)) hS3 (fun W hSW=>?_) ?_
        ·(try dsimp only at hSW);(try obtain⟨hSA,hSB,hSC,hSD⟩:=hSW);(try obtain⟨hSA,hSB⟩:=hSW);go_simp<;>omega
        simp only[Act.put,eA,eB,eC];refine qW 7 80 (.int .i64 (r.length:Int)) hS3 (fun W hSW=>?_) ?_
        ·(try dsimp only at hSW);(try obtain⟨hSA,hSB,hSC,hSD⟩:=hSW);(try obtain⟨hSA,hSB⟩:=hSW);go_simp<;>omega
        simp only[Act.put,eA,eB,eC];refine qW 8 81 (.pointer (some ⟨g,r.length*2,none⟩)) hS3 (fun W hSW=>?_) ?_
        ·(try dsimp only at hSW);(try obtain⟨hSA,hSB,hSC,hSD⟩:=hSW);(try obtain⟨hSA,hSB⟩:=hSW);go_simp<;>omega
        simp only[Act.put,eA,eB,eC];refine qW 9 82 (.agg #[.int .i64 z.1,.string ⟨z.2.toArray⟩]) hS3 (fun W hSW=>?_) ?_
        ·(try dsimp only at hSW);(try obtain⟨hSA,hSB,hSC,hSD⟩:=hSW);(try obtain⟨hSA,hSB⟩:=hSW);go_simp<;>omega
        simp only[Act.put,eA,eB,eC];refine qW 10 83 (.agg #[.int .i64 z.1,.string ⟨z.2.toArray⟩]) hS3 (fun W hSW=>?_) ?_
        ·(try dsimp only at hSW);(try obtain⟨hSA,hSB,hSC,hSD⟩:=hSW);(try obtain⟨hSA,hSB⟩:=hSW);go_simp<;>omega
        simp only[Act.put,eA,eB,eC];refine qW 11 84 (.bool false) hS3 (fun W hSW=>?_) ?_
        ·(try dsimp only at hSW);(try obtain⟨hSA,hSB,hSC,hSD⟩:=hSW);(try obtain⟨hSA,hSB⟩:=hSW);go_simp<;>omega
        simp only[Act.put,eA,eB,eC];refine qW 12 85 (.bool false) hS3 (fun W hSW=>?_) ?_
        ·(try dsimp only at hSW);(try obtain⟨hSA,hSB,hSC,hSD⟩:=hSW);(try obtain⟨hSA,hSB⟩:=hSW);go_simp<;>omega
        simp only[Act.put,eA,eB,eC];refine wpAnyH_done (by kernel_rfl) ?_ _;go_wp2;go_roundw
        case rel=>exact⟨i,k+1,r++[z],g,cp,by omega,by omega,by simp at hol |-;omega,by go_num,by go_num,by simp,HO.out,BS.drew,HP.out⟩
        case measure=>simp[intOf];omega
       ·have HP:=Ld (HM.out.trans (by rw[nT hzx]));clear HM;have hne:(z.1==xb.1)=false\/((z.1==xb.1)=true/\(z.2==xb.2)=false):=by
         by_cases e:z.1=xb.1
         ·exact .inr ⟨by rw[beq_iff_eq];exact e,by rw[bF];exact fun e2=>hzx (Prod.ext e e2)⟩
         ·exact .inl (by rw[bF];exact e)
        clear hzx;rcases hne with hne|⟨hne,hne2⟩
        all_goals
         refine wp_region_held_drew (S:=fun w'=>w'.cell? ⟨wr.heap.size,0,none⟩=some (.int .i64 xb.1)/\w'.cell? ⟨wr.heap.size,1,none⟩=some (.string ⟨xb.2.toArray⟩)/\w'.cell? ⟨g,r.length*2,none⟩=some (.int .i64 z.1)/\w'.cell? ⟨g,r.length*2+1,none⟩=some (.string ⟨z.2.toArray⟩)) (by kernel_rfl) ⟨s0,s1,cz0,cz1⟩ (fun hS3=>?_);refine qW 0 73 (.slice (some ⟨g,0,none⟩) (r.length+1) cp) hS3 (fun W hSW=>?_) ?_
         ·(try dsimp only at hSW);(try obtain⟨hSA,hSB,hSC,hSD⟩:=hSW);(try obtain⟨hSA,hSB⟩:=hSW);go_simp<;>omega
         simp only[Act.put,eA,eB,eC];refine qW 1 74 (.int .i64 ((r.length:Int)+1)) hS3 (fun W hSW=>?_) ?_
         ·(try dsimp only at hSW);(try obtain⟨hSA,hSB,hSC,hSD⟩:=hSW);(try obtain⟨hSA,hSB⟩:=hSW);go_simp<;>omega
         simp only[Act.put,eA,eB,eC];refine qW 2 75 (.bool false) hS3 (fun W hSW=>?_) ?_
         ·(try dsimp only at hSW);(try obtain⟨hSA,hSB,hSC,hSD⟩:=hSW);(try obtain⟨hSA,hSB⟩:=hSW);go_simp<;>omega
         simp only[Act.put,eA,eB,eC];refine qW 3 76 (.bool false) hS3 (fun W hSW=>?_) ?_
         ·(try dsimp only at hSW);(try obtain⟨hSA,hSB,hSC,hSD⟩:=hSW);(try obtain⟨hSA,hSB⟩:=hSW);go_simp<;>omega
         simp only[Act.put,eA,eB,eC];refine qW 4 77 (.slice (some ⟨g,0,none⟩) (r.length+1) cp) hS3 (fun W hSW=>?_) ?_
         ·(try dsimp only at hSW);(try obtain⟨hSA,hSB,hSC,hSD⟩:=hSW);(try obtain⟨hSA,hSB⟩:=hSW);go_simp<;>omega
         simp only[Act.put,eA,eB,eC];refine qW 5 78 (.slice (some ⟨g,0,none⟩) (r.length+1) cp) hS3 (fun W hSW=>?_) ?_
         ·(try dsimp only at hSW);(try obtain⟨hSA,hSB,hSC,hSD⟩:=hSW);(try obtain⟨hSA,hSB⟩:=hSW);go_simp<;>omega
         simp only[Act.put,eA,eB,eC];refine qW 6 79 (.int .i64 ((r.length:Int)+1)) hS3 (fun W hSW=>?_) ?_
         ·(try dsimp only at hSW);(try obtain⟨hSA,hSB,hSC,hSD⟩:=hSW);(try obtain⟨hSA,hSB⟩:=hSW);go_simp<;>omega
         simp only[Act.put,eA,eB,eC];refine qW 7 80 (.int .i64 (r.length:Int)) hS3 (fun W hSW=>?_) ?_
         ·(try dsimp only at hSW);(try obtain⟨hSA,hSB,hSC,hSD⟩:=hSW);(try obtain⟨hSA,hSB⟩:=hSW);go_simp<;>omega
         simp only[Act.put,eA,eB,eC];refine qW 8 81 (.pointer (some ⟨g,r.length*2,none⟩)) hS3 (fun W hSW=>?_) ?_
         ·(try dsimp only at hSW);(try obtain⟨hSA,hSB,hSC,hSD⟩:=hSW);(try obtain⟨hSA,hSB⟩:=hSW);go_simp<;>omega
         simp only[Act.put,eA,eB,eC];refine qW 9 82 (.agg #[.int .i64 z.1,.string ⟨z.2.toArray⟩]) hS3 (fun W hSW=>?_) ?_
         ·(try dsimp only at hSW);(try obtain⟨hSA,hSB,hSC,hSD⟩:=hSW);(try obtain⟨hSA,hSB⟩:=hSW);go_simp<;>omega
         simp only[Act.put,eA,eB,eC];refine qW 10 83 (.agg #[.int .i64 xb.1,.string ⟨xb.2.toArray⟩]) hS3 (fun W hSW=>?_) ?_
         ·(try dsimp only at hSW);(try obtain⟨hSA,hSB,hSC,hSD⟩:=hSW);(try obtain⟨hSA,hSB⟩:=hSW);go_simp<;>omega
         simp only[Act.put,eA,eB,eC];refine qW 11 84 (.bool true) hS3 (fun W hSW=>?_) ?_
         ·(try dsimp only at hSW);(try obtain⟨hSA,hSB,hSC,hSD⟩:=hSW);(try obtain⟨hSA,hSB⟩:=hSW);go_simp<;>omega
         simp only[Act.put,eA,eB,eC];refine qW 12 85 (.bool true) hS3 (fun W hSW=>?_) ?_
         ·(try dsimp only at hSW);(try obtain⟨hSA,hSB,hSC,hSD⟩:=hSW);(try obtain⟨hSA,hSB⟩:=hSW);go_simp<;>omega
         simp only[Act.put,eA,eB,eC];refine wpAnyH_done (by kernel_rfl) ?_ _;go_wp2_with (at_builtin;refine wpList_append_lies _ rfl _ _ _ rfl w2.heap.size 125 i0 _ 2 24 Tryz.underlying38 hi hz0 hz1 hz2 rfl (by decide) _ _ _ rfl ((hownS.alloc _).drew) ⟨ws.heap.size,0,none⟩ 1 1 [.int .i64 xb.1,.string ⟨xb.2.toArray⟩] rfl rfl (fun j u hu=>World.news_of_block (cs:=#[.int .i64 xb.1,.string ⟨xb.2.toArray⟩]) (t:=125) (fr:=(0,0)) (heap_alloc_new ws _) j u hu) (by simp[Value.oneCell']) (by decide) (by simp only[maxLen];omega) (by omega) (by simp;omega) _ rfl ?_;intro g3 cap3 w3' hown3 hgrow hat hlt3);go_roundw
         case rel=>exact⟨i,k+1,r++[z]++[xb],g3,cap3,by omega,by omega,by simp at hol |-;omega,by go_num,by go_num,by simp,by simpa [rQ,uP,qD,sv] using hown3,((BS.alloc hzs _).drew).grown hgrow (by simp;omega) (fun j hj=>(hlS j hj).1),HP.out⟩
         case measure=>simp[intOf];omega
     ·have db2:decide ((k:Int)<(B.length:Int))=false:=dF (by omega);have HM:=Ld (HS.out.trans (aV ordL out hi1 hk1));have HO:=Ld hownA0;clear HS;go_wp2;go_ret;rw[HR.out,HM.out];exact⟨_,rfl,yK6 HO.out hzw,hB2.trans (hbel.mono hzw)⟩
end Go.Proofs.YtgppcegcpiaocaaGreatDoor.L
