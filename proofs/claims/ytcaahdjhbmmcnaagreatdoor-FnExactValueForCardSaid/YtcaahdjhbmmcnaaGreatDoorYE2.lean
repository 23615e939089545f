/- TTextP TVarM TText -/
import Derived.Deep.RegionHeld3
import Derived.Test.YtcaahdjhbmmcnaaGreatDoorYF1
import Derived.Test.YtcaahdjhbmmcnaaGreatDoorYA1
import Derived.Test.YtcaahdjhbmmcnaaGreatDoorYG1
set_option maxRecDepth 100000
set_option maxHeartbeats 16000000
set_option linter.unusedSimpArgs false
set_option linter.unusedVariables false
namespace Go.Proofs.YtcaahdjhbmmcnaaGreatDoor
open Go.ChangeShapes Go.WideShapes Go.ChangeAt Go.RowKit
theorem sort_textN (t:List UInt8):(⟨#[115]⟩:ByteArray) ++ ⟨t.toArray⟩ ++ ⟨#[46]⟩=⟨(Tm.sort t).bytes.toArray⟩:=by
 apply ByteArray.ext;simp [Tm.bytes]
theorem two_textN (c:UInt8) (a b:List UInt8):(⟨#[c]⟩:ByteArray) ++ ⟨a.toArray⟩ ++ ⟨b.toArray⟩=⟨(c :: (a ++ b)).toArray⟩:=by
 apply ByteArray.ext;simp
theorem let_textN (a b c:List UInt8):(⟨#[116]⟩:ByteArray) ++ ⟨a.toArray⟩ ++ ⟨b.toArray⟩ ++ ⟨c.toArray⟩=⟨(116 :: (a ++ (b ++ c))).toArray⟩:=by
 apply ByteArray.ext;simp
theorem lvsB_le60:∀ {ls:List (List UInt8)},(∀ y∈ls,levelOk y=true)->(lvsB ls).length<=ls.length*61
 | [],_=>by simp [lvsB]
 | x :: r,h=>by
  have h1:=(levelOk_len (h x List.mem_cons_self)).1;have h2:=lvsB_le60 (ls:=r) fun y hy=>h y (List.mem_cons_of_mem _ hy);simp only [lvsB,lA,lC];omega
section
variable {P:Program} {ops:Array Oper} {Q:Exit->Act->World->Prop} {md:Region.Mode} {S S':World->Prop}
theorem heldT (i d:Nat) (v:Value) {oi:Oper} {fuel:Nat} {listed:Array Bool} {a:Act} {w:World} (hi:ops[i]?=some oi) (hd:oi.dst=some d)
  (hs:Region.noSelect ops=true) (hf:Region.free md ops listed i=true) (hr:(Region.ready md ops listed).contains i=true)
  (hQ:∀ c a w,Q (.panic c) (a.put (some d) v) w->Q (.panic c) a w) (hw:Region.wanted oi (yielded ops a.tmps)=true) (hS:S w)
  (hrun:∀ w,S w->(execOp a.eval oi).run P w=.ok (.value v) w)
  (h:wpAnyH P md ops Q S fuel (listed.setIfInBounds i true) (a.put (some d) v) w):wpAnyH P md ops Q S (fuel+1) listed a w :=
 wpAnyH_take hi hs hf hr (by rw [hd];exact hQ) (Or.inl ⟨hw,hrun⟩) hS (by rw [hd];exact h)
theorem wpAnyH_more (hS:∀ w,S' w->S w):∀ (fuel:Nat) (listed:Array Bool) (a:Act) (w:World),wpAnyH P md ops Q S' fuel listed a w->wpAnyH P md ops Q S fuel listed a w
 | 0,_,_,_,h=>h
 | fuel+1,_,_,_,h=>⟨h.1,fun i hi=>wpOp_mono (fun a' w' h'=>⟨hS w' h'.1,wpAnyH_more hS fuel _ a' w' h'.2⟩) (h.2 i hi)⟩
theorem qT (i d:Nat) (v:Value) {oi:Oper} {fuel:Nat} {listed:Array Bool} {a:Act} {w:World} (hS:S w) (hrun:∀ w,S w->(execOp a.eval oi).run P w=.ok (.value v) w) (h:wpAnyH P md ops Q S fuel (listed.setIfInBounds i true) (a.put (some d) v) w) (hi:ops[i]? =some oi:=by exact rfl) (hd:oi.dst=some d:=by exact rfl) (hs:Region.noSelect ops=true:=by kernel_rfl) (hf:Region.free md ops listed i=true:=by kernel_rfl) (hr:(Region.ready md ops listed).contains i=true:=by kernel_rfl) (hQ:∀ c a w,Q (.panic c) (a.put (some d) v) w->Q (.panic c) a w:=by exact fun _ _ _ h=>h) (hw:Region.wanted oi (yielded ops a.tmps)=true:=by rfl) :wpAnyH P md ops Q S (fuel+1) listed a w:=heldT i d v hi hd hs hf hr hQ hw hS hrun h
theorem qU (i d:Nat) (v:Value) {oi:Oper} {fuel:Nat} {listed:Array Bool} {a:Act} {w:World} (hS:S w) (h:wpAnyH P md ops Q S fuel (listed.setIfInBounds i true) (a.put (some d) v) w) (hi:ops[i]? =some oi:=by exact rfl) (hd:oi.dst=some d:=by exact rfl) (hs:Region.noSelect ops=true:=by kernel_rfl) (hf:Region.free md ops listed i=true:=by kernel_rfl) (hr:(Region.ready md ops listed).contains i=true:=by kernel_rfl) (hQ:∀ c a w,Q (.panic c) (a.put (some d) v) w->Q (.panic c) a w:=by exact fun _ _ _ h=>h) (hw:Region.wanted oi (yielded ops a.tmps)=true:=by rfl) (hrun:∀ w,S w->(execOp a.eval oi).run P w=.ok (.value v) w:=by (intro W hSW;(try dsimp only at hSW);(try obtain ⟨hSA,hSB⟩:=hSW);go_simp)) :wpAnyH P md ops Q S (fuel+1) listed a w:=heldT i d v hi hd hs hf hr hQ hw hS hrun h
end
theorem allocS {W1 w:World} (h:Below W1.heap.size W1 w) (o:Obj):Below W1.heap.size W1 (w.alloc o):=h.alloc h.size o
theorem stepS {W1 w w2:World} (h:Below W1.heap.size W1 w) (k:Below w.heap.size w w2):Below W1.heap.size W1 w2:=h.trans (k.mono h.size)
def LeafT (W:World) (B:Nat) (nd:Nd):Tm->Prop
 | .var n=>nd.kind=118/\nd.num=n
 | .sort l=>nd.kind=115/\nd.text=l
 | .const nm ls=>nd.kind=99/\nd.text=nm/\W.ownsRow B 9 1 nd.lv ls.length (ls.map sv)
 | _=>False
def RepT (W:World) (B:Nat) (ns:List Nd):Nat->Tm->Prop
 | k,.var n=>∃ nd,ns[k]?=some nd/\LeafT W B nd (.var n)
 | k,.sort l=>∃ nd,ns[k]?=some nd/\LeafT W B nd (.sort l)
 | k,.const n ls=>∃ nd,ns[k]?=some nd/\LeafT W B nd (.const n ls)
 | k,.app f a=>∃ nd,ns[k]?=some nd/\nd.kind=64/\RepT W B ns nd.a f/\RepT W B ns nd.b a
 | k,.lam d b=>∃ nd,ns[k]?=some nd/\nd.kind=108/\RepT W B ns nd.a d/\RepT W B ns nd.b b
 | k,.pi d b=>∃ nd,ns[k]?=some nd/\nd.kind=112/\RepT W B ns nd.a d/\RepT W B ns nd.b b
 | k,.lett t v b=>∃ nd,ns[k]?=some nd/\nd.kind=116/\RepT W B ns nd.a t/\RepT W B ns nd.b v/\RepT W B ns nd.c b
theorem RepT.keep {W W':World} {B:Nat} {ns ns':List Nd} (hk:KeepS B W W') (he:Ext ns ns'):∀ (t:Tm) (k:Nat),RepT W B ns k t->RepT W' B ns' k t
 | .var _,_,⟨nd,h1,h2⟩=>⟨nd,he _ _ h1,h2⟩
 | .sort _,_,⟨nd,h1,h2⟩=>⟨nd,he _ _ h1,h2⟩
 | .const _ _,_,⟨nd,h1,h2,h3,h4⟩=>⟨nd,he _ _ h1,h2,h3,hk _ _ _ h4⟩
 | .app f a,_,⟨nd,h1,h2,h3,h4⟩=>⟨nd,he _ _ h1,h2,RepT.keep hk he f _ h3,RepT.keep hk he a _ h4⟩
 | .lam f a,_,⟨nd,h1,h2,h3,h4⟩=>⟨nd,he _ _ h1,h2,RepT.keep hk he f _ h3,RepT.keep hk he a _ h4⟩
 | .pi f a,_,⟨nd,h1,h2,h3,h4⟩=>⟨nd,he _ _ h1,h2,RepT.keep hk he f _ h3,RepT.keep hk he a _ h4⟩
 | .lett f a b,_,⟨nd,h1,h2,h3,h4,h5⟩=>⟨nd,he _ _ h1,h2,RepT.keep hk he f _ h3,RepT.keep hk he a _ h4,RepT.keep hk he b _ h5⟩
theorem var_text (n:Nat):(⟨#[118]⟩:ByteArray) ++ ⟨(Lib.decDigits n).toArray⟩ ++ ⟨#[46]⟩=⟨((Tm.var n).bytes).toArray⟩:=by
 apply ByteArray.ext;simp [Tm.bytes]
theorem specVar (n:Nat) (w:World) (hn:n<=1000000) :
  Rt 84 #[.int .i64 (n:Int)] w (.string ⟨(Tm.var n).bytes.toArray⟩):=by
 have f1:=Ld (decimal_any (n:Int) w (by omega) (by omega));rw [Lib.itoa_nonneg] at f1;have HV:=Ld (var_text n);have hl:(Lib.decDigits n).length<=10:=digits_len (by omega);have hz:(⟨(Lib.decDigits n).toArray⟩:ByteArray).size=(Lib.decDigits n).length:=by simp [ByteArray.size]
 generalize Lib.decDigits n=d at f1 HV hl hz;generalize (Tm.var n).bytes=t at HV;go_enter Tryz.func84,Tryz.ntmps84;go_wp2_with fail;(with_reducible refine mo f1.out fun w1 hb=>?_);go_wp2;go_ret;rw [← HV.out];exact ⟨rfl,hb⟩
theorem textTwo {q:UInt8} (e1:((q.toNat:Int) == 118)=false) (e2:((q.toNat:Int) == 115)=false) (e3:((q.toNat:Int) == 99)=false) (e4:((q.toNat:Int) == 116)=false) {ns:List Nd} (hn:ns.length<=100000) (hsl:∀ nd∈ns,∃ a n c,nd.lv=.slice a n c) {b B:Nat} {f a:Tm}
  (ihf:∀ (k:Nat) (W:World) (v:Value),W.ownsRow b 94 7 v ns.length (flatN ns)->RepT W B ns k f->f.Ok->f.bytes.length<=100000->Rt 61 #[v,.int .i64 (k:Int)] W (.string ⟨f.bytes.toArray⟩))
  (iha:∀ (k:Nat) (W:World) (v:Value),W.ownsRow b 94 7 v ns.length (flatN ns)->RepT W B ns k a->a.Ok->a.bytes.length<=100000->Rt 61 #[v,.int .i64 (k:Int)] W (.string ⟨a.bytes.toArray⟩))
  (k:Nat) (W:World) (v:Value) (hrow:W.ownsRow b 94 7 v ns.length (flatN ns)) (hr:∃ nd,ns[k]?=some nd/\nd.kind=q/\RepT W B ns nd.a f/\RepT W B ns nd.b a) (hok:f.Ok/\a.Ok) (hle:(q :: (f.bytes ++ a.bytes)).length<=100000) :
  Rt 61 #[v,.int .i64 (k:Int)] W (.string ⟨(q :: (f.bytes ++ a.bytes)).toArray⟩):=by
 obtain ⟨nd,hnd,HK⟩:=hr;obtain ⟨sa,sn,sc,hlv⟩:=hsl nd (List.mem_of_getElem? hnd);have hlt:k < ns.length:=by
  by_cases hl:k < ns.length
  ·exact hl
  ·rw [List.getElem?_eq_none (by omega)] at hnd;cases hnd
 obtain ⟨g,cap,rfl,_,hgl⟩:=hrow.form (by omega);obtain ⟨c0,c1,c2,c3,c4,c5,c6⟩:=node_all hrow hnd hlv;have q1:=zn k;have q2:(k:Int) < (ns.length:Int):=by omega
 obtain ⟨hkind,hr1,hr2⟩:=HK;rw [hkind] at c0;have b1:=(bR W.heap.size W).alloc (nR _) (nC (q.toNat:Int) nd (.slice sa sn sc) 94);have hblk:(W.alloc (nC (q.toNat:Int) nd (.slice sa sn sc) 94)).heap[W.heap.size]?=some (nC (q.toNat:Int) nd (.slice sa sn sc) 94 (0,0)):=heap_alloc_new W _;have z1:W.heap.size < (W.alloc (nC (q.toNat:Int) nd (.slice sa sn sc) 94)).heap.size:=by simp
 have HBC:Hid (∀ W',Below (W.alloc (nC (q.toNat:Int) nd (.slice sa sn sc) 94)).heap.size (W.alloc (nC (q.toNat:Int) nd (.slice sa sn sc) 94)) W'->W'.cell? ⟨W.heap.size,0,none⟩=some (.int .u8 (q.toNat:Int))/\W'.cell? ⟨W.heap.size,1,none⟩=some (.int .i64 (nd.a:Int))/\W'.cell? ⟨W.heap.size,2,none⟩=some (.int .i64 (nd.b:Int))):=fun W' hb=>by
  have h:=(hb.block _ z1).trans hblk;exact ⟨cell_of_row _ _ _ _ _ _ h,cell_of_row _ _ _ _ _ _ h,cell_of_row _ _ _ _ _ _ h⟩
 have HF:Hid (∀ W',Below (W.alloc (nC (q.toNat:Int) nd (.slice sa sn sc) 94)).heap.size (W.alloc (nC (q.toNat:Int) nd (.slice sa sn sc) 94)) W'->Rt 61 #[.slice (some ⟨g,0,none⟩) ns.length cap,.int .i64 (nd.a:Int)] W' (.string ⟨f.bytes.toArray⟩)):=fun W' hb =>
  ihf nd.a W' _ (own_below (own_below hrow b1) hb) (RepT.keep (fun _ _ _ h=>own_below (own_below h b1) hb) (Ext.refl _) f _ hr1) hok.1 (by simp only [lC,lA] at hle;omega)
 have HA:Hid (∀ W',Below (W.alloc (nC (q.toNat:Int) nd (.slice sa sn sc) 94)).heap.size (W.alloc (nC (q.toNat:Int) nd (.slice sa sn sc) 94)) W'->Rt 61 #[.slice (some ⟨g,0,none⟩) ns.length cap,.int .i64 (nd.b:Int)] W' (.string ⟨a.bytes.toArray⟩)):=fun W' hb =>
  iha nd.b W' _ (own_below (own_below hrow b1) hb) (RepT.keep (fun _ _ _ h=>own_below (own_below h b1) hb) (Ext.refl _) a _ hr2) hok.2 (by simp only [lC,lA] at hle;omega)
 have HE:=Ld (two_textN q f.bytes a.bytes);have zf:f.bytes.length<=100000:=by simp only [lC,lA] at hle;omega
 have za:a.bytes.length<=100000:=by simp only [lC,lA] at hle;omega
 have B0:=Ld b1;have Z1:=Ld z1;clear hnd hkind hlv hsl hrow hr1 hr2 ihf iha hok hle b1 hblk z1;generalize f.bytes=fb at HF HE zf;generalize a.bytes=ab at HA HE za;generalize (q :: (fb ++ ab))=tb at HE |-;go_enter Tryz.func61,Tryz.ntmps61;go_wp2_with fail;clear c0 c1 c2 c3 c4 c5 c6;generalize (W.alloc (nC (q.toNat:Int) nd (.slice sa sn sc) 94))=W1 at HBC HF HA B0 Z1;have B1:=bR W1.heap.size W1;have X1:=HBC.out _ B1;refine wp_region_held_drew (S:=fun w'=>Below W1.heap.size W1 w') (by kernel_rfl) B1.drew (fun hS0=>?_);generalize W1.drew=w1 at hS0 |-;refine qT 0 47 (.pointer (some ⟨W.heap.size,0,none⟩)) hS0 (fun W hSW=>?_) ?_
 ·obtain ⟨x0,x1,x2⟩:=HBC.out W hSW;(try go_simp)<;>(try omega)
 refine qT 1 48 (.int .u8 (q.toNat:Int)) hS0 (fun W hSW=>?_) ?_
 ·obtain ⟨x0,x1,x2⟩:=HBC.out W hSW;(try go_simp)<;>(try omega)
 refine qT 4 51 (.slice (some ⟨g,0,none⟩) ns.length cap) hS0 (fun W hSW=>?_) ?_
 ·obtain ⟨x0,x1,x2⟩:=HBC.out W hSW;(try go_simp)<;>(try omega)
 refine qT 5 52 (.pointer (some ⟨W.heap.size,1,none⟩)) hS0 (fun W hSW=>?_) ?_
 ·obtain ⟨x0,x1,x2⟩:=HBC.out W hSW;(try go_simp)<;>(try omega)
 refine qT 6 53 (.int .i64 (nd.a:Int)) hS0 (fun W hSW=>?_) ?_
 ·obtain ⟨x0,x1,x2⟩:=HBC.out W hSW;(try go_simp)<;>(try omega)
 refine qT 9 56 (.slice (some ⟨g,0,none⟩) ns.length cap) hS0 (fun W hSW=>?_) ?_
 ·obtain ⟨x0,x1,x2⟩:=HBC.out W hSW;(try go_simp)<;>(try omega)
 refine qT 10 57 (.pointer (some ⟨W.heap.size,2,none⟩)) hS0 (fun W hSW=>?_) ?_
 ·obtain ⟨x0,x1,x2⟩:=HBC.out W hSW;(try go_simp)<;>(try omega)
 refine qT 11 58 (.int .i64 (nd.b:Int)) hS0 (fun W hSW=>?_) ?_
 ·obtain ⟨x0,x1,x2⟩:=HBC.out W hSW;(try go_simp)<;>(try omega)
 try simp only [Act.put,eA,eB,eC]
 refine wpAnyH_ready (rs:=[2,7]) (by kernel_rfl) (by simp) ((AllReadyH.cons rfl (fun K hK=>?_) (AllReadyH.cons rfl (fun K hK=>?_) AllReadyH.nil)))
 ·rw [iP (by rfl)];go_simp;refine hK.out _ _ (allocS hS0 _) (fun hSb=>?_);clear hK K;have rb:=World.ownsRow_lit (base:=0) (e:=5) (size:=1) w1 #[.int .u8 (q.toNat:Int)] 1 (Nat.zero_le _) (by decide) (by simp);obtain ⟨gb,hgb⟩:∃ gb,w1.heap.size=gb:=⟨_,rfl⟩;rw [hgb] at rb |-;generalize w1.alloc (.cells #[.int .u8 (q.toNat:Int)] 5)=wb at rb hSb |-;refine wpAnyH_more (S':=fun w'=>Below W1.heap.size W1 w'/\w'.ownsRow 0 5 1 (.slice (some ⟨gb,0,none⟩) 1 1) 1 ([q].map bv)) (fun _ h=>h.1) _ _ _ _ ?_;have hS2:Below W1.heap.size W1 wb/\wb.ownsRow 0 5 1 (.slice (some ⟨gb,0,none⟩) 1 1) 1 ([q].map bv):=⟨hSb,rb⟩;clear rb hSb hgb;refine qT 3 50 (.string ⟨#[q]⟩) hS2 (fun W hSW=>?_) ?_
  ·have cv:=conv_own (P:=Tryz.prog) (t:=97) (d:=9) W Tryz.underlying97 Tryz.underlying5 Tryz.underlying9 hSW.2;(try go_simp)<;>(try omega)
  try simp only [Act.put,eA,eB,eC]
  refine qR 7 fun K hK=>?_;go_simp;(with_reducible refine mo (HF.out _ hS2.1) fun w2 hb_w2=>?_);refine hK.out _ _ ⟨stepS hS2.1 hb_w2,own_below hS2.2 hb_w2⟩ (fun hS_w2=>?_);clear hK K hb_w2;refine qT 8 55 (.string ((⟨#[q]⟩:ByteArray) ++ ⟨fb.toArray⟩)) hS_w2 (fun W hSW=>?_) ?_
  ·skip;(try go_simp)<;>(try omega)
  try simp only [Act.put,eA,eB,eC]
  refine qR 12 fun K hK=>?_;go_simp;(with_reducible refine mo (HA.out _ hS_w2.1) fun w3 hb_w3=>?_);refine hK.out _ _ ⟨stepS hS_w2.1 hb_w3,own_below hS_w2.2 hb_w3⟩ (fun hS_w3=>?_);clear hK K hb_w3
  try simp only [Act.put,eA,eB,eC]
  have hS_w3_1:=hS_w3.1;refine qT 13 60 (.string ((⟨#[q]⟩:ByteArray) ++ ⟨fb.toArray⟩ ++ ⟨ab.toArray⟩)) hS_w3 (fun W hSW=>?_) ?_
  ·skip;(try go_simp)<;>(try omega)
  refine qT 14 4 (.string ((⟨#[q]⟩:ByteArray) ++ ⟨fb.toArray⟩ ++ ⟨ab.toArray⟩)) hS_w3 (fun W hSW=>?_) ?_
  ·skip;(try go_simp)<;>(try omega)
  try simp only [Act.put,eA,eB,eC]
  refine wpAnyH_done (by kernel_rfl) ?_ _;go_wp2;go_ret;rw [HE.out];exact ⟨rfl,B0.out.trans (hS_w3_1.mono (Nat.le_of_lt Z1.out))⟩
 ·rw [iP (by rfl)];go_simp;(with_reducible refine mo (HF.out _ hS0) fun w2 hb_w2=>?_);refine hK.out _ _ (stepS hS0 hb_w2) (fun hS_w2=>?_);clear hK K hb_w2
  try simp only [Act.put,eA,eB,eC]
  refine wpAnyH_ready (rs:=[2,12]) (by kernel_rfl) (by simp) ((AllReadyH.cons rfl (fun K hK=>?_) (AllReadyH.cons rfl (fun K hK=>?_) AllReadyH.nil)))
  ·rw [iP (by rfl)];go_simp;refine hK.out _ _ (allocS hS_w2 _) (fun hSb=>?_);clear hK K;have rb:=World.ownsRow_lit (base:=0) (e:=5) (size:=1) w2 #[.int .u8 (q.toNat:Int)] 1 (Nat.zero_le _) (by decide) (by simp);obtain ⟨gb,hgb⟩:∃ gb,w2.heap.size=gb:=⟨_,rfl⟩;rw [hgb] at rb |-;generalize w2.alloc (.cells #[.int .u8 (q.toNat:Int)] 5)=wb at rb hSb |-;refine wpAnyH_more (S':=fun w'=>Below W1.heap.size W1 w'/\w'.ownsRow 0 5 1 (.slice (some ⟨gb,0,none⟩) 1 1) 1 ([q].map bv)) (fun _ h=>h.1) _ _ _ _ ?_;have hS2:Below W1.heap.size W1 wb/\wb.ownsRow 0 5 1 (.slice (some ⟨gb,0,none⟩) 1 1) 1 ([q].map bv):=⟨hSb,rb⟩;clear rb hSb hgb;refine qT 3 50 (.string ⟨#[q]⟩) hS2 (fun W hSW=>?_) ?_
   ·have cv:=conv_own (P:=Tryz.prog) (t:=97) (d:=9) W Tryz.underlying97 Tryz.underlying5 Tryz.underlying9 hSW.2;(try go_simp)<;>(try omega)
   refine qT 8 55 (.string ((⟨#[q]⟩:ByteArray) ++ ⟨fb.toArray⟩)) hS2 (fun W hSW=>?_) ?_
   ·skip;(try go_simp)<;>(try omega)
   try simp only [Act.put,eA,eB,eC]
   refine qR 12 fun K hK=>?_;go_simp;(with_reducible refine mo (HA.out _ hS2.1) fun w3 hb_w3=>?_);refine hK.out _ _ ⟨stepS hS2.1 hb_w3,own_below hS2.2 hb_w3⟩ (fun hS_w3=>?_);clear hK K hb_w3
   try simp only [Act.put,eA,eB,eC]
   have hS_w3_1:=hS_w3.1;refine qT 13 60 (.string ((⟨#[q]⟩:ByteArray) ++ ⟨fb.toArray⟩ ++ ⟨ab.toArray⟩)) hS_w3 (fun W hSW=>?_) ?_
   ·skip;(try go_simp)<;>(try omega)
   refine qT 14 4 (.string ((⟨#[q]⟩:ByteArray) ++ ⟨fb.toArray⟩ ++ ⟨ab.toArray⟩)) hS_w3 (fun W hSW=>?_) ?_
   ·skip;(try go_simp)<;>(try omega)
   try simp only [Act.put,eA,eB,eC]
   refine wpAnyH_done (by kernel_rfl) ?_ _;go_wp2;go_ret;rw [HE.out];exact ⟨rfl,B0.out.trans (hS_w3_1.mono (Nat.le_of_lt Z1.out))⟩
  ·rw [iP (by rfl)];go_simp;(with_reducible refine mo (HA.out _ hS_w2) fun w3 hb_w3=>?_);refine hK.out _ _ (stepS hS_w2 hb_w3) (fun hS_w3=>?_);clear hK K hb_w3
   try simp only [Act.put,eA,eB,eC]
   refine qR 2 fun K hK=>?_;go_simp;refine hK.out _ _ (allocS hS_w3 _) (fun hSb=>?_);clear hK K;have rb:=World.ownsRow_lit (base:=0) (e:=5) (size:=1) w3 #[.int .u8 (q.toNat:Int)] 1 (Nat.zero_le _) (by decide) (by simp);obtain ⟨gb,hgb⟩:∃ gb,w3.heap.size=gb:=⟨_,rfl⟩;rw [hgb] at rb |-;generalize w3.alloc (.cells #[.int .u8 (q.toNat:Int)] 5)=wb at rb hSb |-;refine wpAnyH_more (S':=fun w'=>Below W1.heap.size W1 w'/\w'.ownsRow 0 5 1 (.slice (some ⟨gb,0,none⟩) 1 1) 1 ([q].map bv)) (fun _ h=>h.1) _ _ _ _ ?_;have hS2:Below W1.heap.size W1 wb/\wb.ownsRow 0 5 1 (.slice (some ⟨gb,0,none⟩) 1 1) 1 ([q].map bv):=⟨hSb,rb⟩;clear rb hSb hgb;refine qT 3 50 (.string ⟨#[q]⟩) hS2 (fun W hSW=>?_) ?_
   ·have cv:=conv_own (P:=Tryz.prog) (t:=97) (d:=9) W Tryz.underlying97 Tryz.underlying5 Tryz.underlying9 hSW.2;(try go_simp)<;>(try omega)
   refine qT 8 55 (.string ((⟨#[q]⟩:ByteArray) ++ ⟨fb.toArray⟩)) hS2 (fun W hSW=>?_) ?_
   ·skip;(try go_simp)<;>(try omega)
   try simp only [Act.put,eA,eB,eC]
   have hS2_1:=hS2.1;refine qT 13 60 (.string ((⟨#[q]⟩:ByteArray) ++ ⟨fb.toArray⟩ ++ ⟨ab.toArray⟩)) hS2 (fun W hSW=>?_) ?_
   ·skip;(try go_simp)<;>(try omega)
   refine qT 14 4 (.string ((⟨#[q]⟩:ByteArray) ++ ⟨fb.toArray⟩ ++ ⟨ab.toArray⟩)) hS2 (fun W hSW=>?_) ?_
   ·skip;(try go_simp)<;>(try omega)
   try simp only [Act.put,eA,eB,eC]
   refine wpAnyH_done (by kernel_rfl) ?_ _;go_wp2;go_ret;rw [HE.out];exact ⟨rfl,B0.out.trans (hS2_1.mono (Nat.le_of_lt Z1.out))⟩
theorem specL06TextT {ns:List Nd} (hn:ns.length<=100000) (hsl:∀ nd∈ns,∃ a n c,nd.lv=.slice a n c) {b B:Nat}:∀ (t:Tm) (k:Nat) (W:World) (v:Value),W.ownsRow b 94 7 v ns.length (flatN ns)->RepT W B ns k t->t.Ok->t.bytes.length<=100000 ->
  Rt 61 #[v,.int .i64 (k:Int)] W (.string ⟨t.bytes.toArray⟩):=by
 have hklt:∀ (k:Nat) nd,ns[k]?=some nd->k < ns.length:=fun k nd h=>by
  by_cases hl:k < ns.length
  ·exact hl
  ·rw [List.getElem?_eq_none (by omega)] at h;cases h
 intro t
 induction t with
 | var n =>
  intro k W v hrow hr hok hle;obtain ⟨nd,hnd,HK⟩:=hr;obtain ⟨sa,sn,sc,hlv⟩:=hsl nd (List.mem_of_getElem? hnd);have hlt:=hklt k nd hnd;obtain ⟨g,cap,rfl,_,hgl⟩:=hrow.form (by omega);obtain ⟨c0,c1,c2,c3,c4,c5,c6⟩:=node_all hrow hnd hlv;have q1:=zn k;have q2:(k:Int) < (ns.length:Int):=(by omega);have hkind:nd.kind=118:=HK.1;have hnum:nd.num=n:=HK.2;have hn9:n<=999:=hok;rw [hkind] at c0;rw [hnum] at c4;have b1:=(bR W.heap.size W).alloc (nR _) (.cells #[.int .u8 118,.int .i64 (nd.a:Int),.int .i64 (nd.b:Int),.int .i64 (nd.c:Int),.int .i64 (n:Int),.string ⟨nd.text.toArray⟩,.slice sa sn sc] 94);have B1:=Ld b1;have fV:=Ld fun W=>specVar n W (by omega);generalize (Tm.var n).bytes=tb at fV |-;clear hrow hnd HK hkind hnum hlv hsl hklt b1;go_enter Tryz.func61,Tryz.ntmps61;go_wp2_with fail;(with_reducible refine mo (fV.out _) fun w2 hb2=>?_);go_wp2;go_ret;exact ⟨rfl,B1.out.trans (hb2.mono B1.out.size)⟩
 | sort l =>
  intro k W v hrow hr hok hle;obtain ⟨nd,hnd,HK⟩:=hr;obtain ⟨sa,sn,sc,hlv⟩:=hsl nd (List.mem_of_getElem? hnd);have hlt:=hklt k nd hnd;obtain ⟨g,cap,rfl,_,hgl⟩:=hrow.form (by omega);obtain ⟨c0,c1,c2,c3,c4,c5,c6⟩:=node_all hrow hnd hlv;have q1:=zn k;have q2:(k:Int) < (ns.length:Int):=(by omega);have hkind:nd.kind=115:=HK.1;have htext:nd.text=l:=HK.2;rw [hkind] at c0;rw [htext] at c5;have HE:=Ld (sort_textN l);have zl:l.length<=60:=(levelOk_len hok).1;generalize (Tm.sort l).bytes=tb at HE |-;clear hrow hnd HK hkind htext hlv hsl hklt hok hle;go_enter Tryz.func61,Tryz.ntmps61;go_wp2;go_ret;rw [← HE.out];exact ⟨rfl,(bR _ _).alloc (nR _) _⟩
 | const n ls =>
  intro k W v hrow hr hok hle;obtain ⟨nd,hnd,HK⟩:=hr;obtain ⟨sa,sn,sc,hlv⟩:=hsl nd (List.mem_of_getElem? hnd);have hlt:=hklt k nd hnd;obtain ⟨g,cap,rfl,_,hgl⟩:=hrow.form (by omega);obtain ⟨c0,c1,c2,c3,c4,c5,c6⟩:=node_all hrow hnd hlv;have q1:=zn k;have q2:(k:Int) < (ns.length:Int):=(by omega);have hkind:nd.kind=99:=HK.1;have htext:nd.text=n:=HK.2.1;have hlvs:=HK.2.2;rw [hlv] at hlvs;rw [hkind] at c0;rw [htext] at c5;have b1:=(bR W.heap.size W).alloc (nR _) (.cells #[.int .u8 99,.int .i64 (nd.a:Int),.int .i64 (nd.b:Int),.int .i64 (nd.c:Int),.int .i64 (nd.num:Int),.string ⟨n.toArray⟩,.slice sa sn sc] 94);have B1:=Ld b1;have zn:n.length<=40:=nameOk_len hok.1;have zls:=lvsB_le60 hok.2.2;have z3:=hok.2.1;have zm:ls.length*61<=183:=(by omega);have fC:=Ld (specConst ⟨n.toArray⟩ (own_below hlvs b1) (by omega) (by show n.length<=_;omega) (by omega));rw [show (⟨n.toArray⟩:ByteArray).data.toList=n from rfl] at fC;generalize (Tm.const n ls).bytes=tb at fC |-;clear hrow hnd HK hkind htext hlv hsl hklt b1 hlvs hok hle zls z3 zm zn;go_enter Tryz.func61,Tryz.ntmps61;go_wp2_with fail;(with_reducible refine mo fC.out ?_);rintro w2 rfl;go_wp2;go_ret;exact ⟨rfl,B1.out⟩
 | app f a ihf iha=>exact fun k W v hrow hr hok hle=>textTwo (by decide) (by decide) (by decide) (by decide) hn hsl ihf iha k W v hrow hr hok hle
 | lam f a ihf iha=>exact fun k W v hrow hr hok hle=>textTwo (by decide) (by decide) (by decide) (by decide) hn hsl ihf iha k W v hrow hr hok hle
 | pi f a ihf iha=>exact fun k W v hrow hr hok hle=>textTwo (by decide) (by decide) (by decide) (by decide) hn hsl ihf iha k W v hrow hr hok hle
 | lett f a c ihf iha ihc =>
  intro k W v hrow hr hok hle;obtain ⟨nd,hnd,HK⟩:=hr;obtain ⟨sa,sn,sc,hlv⟩:=hsl nd (List.mem_of_getElem? hnd);have hlt:=hklt k nd hnd;obtain ⟨g,cap,rfl,_,hgl⟩:=hrow.form (by omega);obtain ⟨c0,c1,c2,c3,c4,c5,c6⟩:=node_all hrow hnd hlv;have q1:=zn k;have q2:(k:Int) < (ns.length:Int):=(by omega);obtain ⟨hkind,hr1,hr2,hr3⟩:=HK;rw [hkind] at c0;have b1:=(bR W.heap.size W).alloc (nR _) (nC 116 nd (.slice sa sn sc) 94);have hblk:(W.alloc (nC 116 nd (.slice sa sn sc) 94)).heap[W.heap.size]?=some (nC 116 nd (.slice sa sn sc) 94 (0,0)):=heap_alloc_new W _;have z1:W.heap.size < (W.alloc (nC 116 nd (.slice sa sn sc) 94)).heap.size:=(by simp);have HBC:Hid (∀ W',Below (W.alloc (nC 116 nd (.slice sa sn sc) 94)).heap.size (W.alloc (nC 116 nd (.slice sa sn sc) 94)) W'->W'.cell? ⟨W.heap.size,3,none⟩=some (.int .i64 (nd.c:Int))/\W'.cell? ⟨W.heap.size,1,none⟩=some (.int .i64 (nd.a:Int))/\W'.cell? ⟨W.heap.size,2,none⟩=some (.int .i64 (nd.b:Int))):=fun W' hb=>by
   have h:=(hb.block _ z1).trans hblk;exact ⟨cell_of_row _ _ _ _ _ _ h,cell_of_row _ _ _ _ _ _ h,cell_of_row _ _ _ _ _ _ h⟩
  have HF:Hid (∀ W',Below (W.alloc (nC 116 nd (.slice sa sn sc) 94)).heap.size (W.alloc (nC 116 nd (.slice sa sn sc) 94)) W'->Rt 61 #[.slice (some ⟨g,0,none⟩) ns.length cap,.int .i64 (nd.a:Int)] W' (.string ⟨f.bytes.toArray⟩)):=fun W' hb =>
   ihf nd.a W' _ (own_below (own_below hrow b1) hb) (RepT.keep (fun _ _ _ h=>own_below (own_below h b1) hb) (Ext.refl _) f _ hr1) hok.1 (by simp only [Tm.bytes,lC,lA] at hle;omega)
  have HA:Hid (∀ W',Below (W.alloc (nC 116 nd (.slice sa sn sc) 94)).heap.size (W.alloc (nC 116 nd (.slice sa sn sc) 94)) W'->Rt 61 #[.slice (some ⟨g,0,none⟩) ns.length cap,.int .i64 (nd.b:Int)] W' (.string ⟨a.bytes.toArray⟩)):=fun W' hb =>
   iha nd.b W' _ (own_below (own_below hrow b1) hb) (RepT.keep (fun _ _ _ h=>own_below (own_below h b1) hb) (Ext.refl _) a _ hr2) hok.2.1 (by simp only [Tm.bytes,lC,lA] at hle;omega)
  have HC:Hid (∀ W',Below (W.alloc (nC 116 nd (.slice sa sn sc) 94)).heap.size (W.alloc (nC 116 nd (.slice sa sn sc) 94)) W'->Rt 61 #[.slice (some ⟨g,0,none⟩) ns.length cap,.int .i64 (nd.c:Int)] W' (.string ⟨c.bytes.toArray⟩)):=fun W' hb =>
   ihc nd.c W' _ (own_below (own_below hrow b1) hb) (RepT.keep (fun _ _ _ h=>own_below (own_below h b1) hb) (Ext.refl _) c _ hr3) hok.2.2 (by simp only [Tm.bytes,lC,lA] at hle;omega)
  have HE:=Ld (let_textN f.bytes a.bytes c.bytes);rw [show (Tm.lett f a c).bytes=116 :: (f.bytes ++ (a.bytes ++ c.bytes)) from rfl];have zf:f.bytes.length<=100000:=(by simp only [Tm.bytes,lC,lA] at hle;omega);have za:a.bytes.length<=100000:=(by simp only [Tm.bytes,lC,lA] at hle;omega);have zc:c.bytes.length<=100000:=(by simp only [Tm.bytes,lC,lA] at hle;omega);have B0:=Ld b1;have Z1:=Ld z1;clear hnd hkind hlv hsl hklt hrow hr1 hr2 hr3 ihf iha ihc hok hle b1 hblk z1;generalize f.bytes=fb at HF HE zf;generalize a.bytes=ab at HA HE za;generalize c.bytes=cbt at HC HE zc;generalize (116 :: (fb ++ (ab ++ cbt)))=tb at HE |-;go_enter Tryz.func61,Tryz.ntmps61;go_wp2_with fail;clear c0 c1 c2 c3 c4 c5 c6;generalize (W.alloc (nC 116 nd (.slice sa sn sc) 94))=W1 at HBC HF HA HC B0 Z1;have B1:=bR W1.heap.size W1;refine wp_region_held_drew (S:=fun w'=>Below W1.heap.size W1 w') (by kernel_rfl) B1.drew (fun hS0=>?_);generalize W1.drew=w1 at hS0 |-;refine qT 0 32 (.slice (some ⟨g,0,none⟩) ns.length cap) hS0 (fun W hSW=>?_) ?_
  ·obtain ⟨x0,x1,x2⟩:=HBC.out W hSW;(try go_simp)<;>(try omega)
  refine qT 1 33 (.pointer (some ⟨W.heap.size,1,none⟩)) hS0 (fun W hSW=>?_) ?_
  ·obtain ⟨x0,x1,x2⟩:=HBC.out W hSW;(try go_simp)<;>(try omega)
  refine qT 2 34 (.int .i64 (nd.a:Int)) hS0 (fun W hSW=>?_) ?_
  ·obtain ⟨x0,x1,x2⟩:=HBC.out W hSW;(try go_simp)<;>(try omega)
  refine qT 5 37 (.slice (some ⟨g,0,none⟩) ns.length cap) hS0 (fun W hSW=>?_) ?_
  ·obtain ⟨x0,x1,x2⟩:=HBC.out W hSW;(try go_simp)<;>(try omega)
  refine qT 6 38 (.pointer (some ⟨W.heap.size,2,none⟩)) hS0 (fun W hSW=>?_) ?_
  ·obtain ⟨x0,x1,x2⟩:=HBC.out W hSW;(try go_simp)<;>(try omega)
  refine qT 7 39 (.int .i64 (nd.b:Int)) hS0 (fun W hSW=>?_) ?_
  ·obtain ⟨x0,x1,x2⟩:=HBC.out W hSW;(try go_simp)<;>(try omega)
  refine qT 10 42 (.slice (some ⟨g,0,none⟩) ns.length cap) hS0 (fun W hSW=>?_) ?_
  ·obtain ⟨x0,x1,x2⟩:=HBC.out W hSW;(try go_simp)<;>(try omega)
  refine qT 11 43 (.pointer (some ⟨W.heap.size,3,none⟩)) hS0 (fun W hSW=>?_) ?_
  ·obtain ⟨x0,x1,x2⟩:=HBC.out W hSW;(try go_simp)<;>(try omega)
  refine qT 12 44 (.int .i64 (nd.c:Int)) hS0 (fun W hSW=>?_) ?_
  ·obtain ⟨x0,x1,x2⟩:=HBC.out W hSW;(try go_simp)<;>(try omega)
  try simp only [Act.put,eA,eB,eC]
  refine qR 3 fun K hK=>?_;go_simp;(with_reducible refine mo (HF.out _ hS0) fun w2 hb_w2=>?_);refine hK.out _ _ (stepS hS0 hb_w2) (fun hS_w2=>?_);clear hK K hb_w2;refine qT 4 36 (.string ((⟨#[116]⟩:ByteArray) ++ ⟨fb.toArray⟩)) hS_w2 (fun W hSW=>?_) ?_
  ·skip;(try go_simp)<;>(try omega)
  try simp only [Act.put,eA,eB,eC]
  refine qR 8 fun K hK=>?_;go_simp;(with_reducible refine mo (HA.out _ hS_w2) fun w3 hb_w3=>?_);refine hK.out _ _ (stepS hS_w2 hb_w3) (fun hS_w3=>?_);clear hK K hb_w3;refine qT 9 41 (.string ((⟨#[116]⟩:ByteArray) ++ ⟨fb.toArray⟩ ++ ⟨ab.toArray⟩)) hS_w3 (fun W hSW=>?_) ?_
  ·skip;(try go_simp)<;>(try omega)
  try simp only [Act.put,eA,eB,eC]
  refine qR 13 fun K hK=>?_;go_simp;(with_reducible refine mo (HC.out _ hS_w3) fun w4 hb_w4=>?_);refine hK.out _ _ (stepS hS_w3 hb_w4) (fun hS_w4=>?_);clear hK K hb_w4;refine qT 14 46 (.string ((⟨#[116]⟩:ByteArray) ++ ⟨fb.toArray⟩ ++ ⟨ab.toArray⟩ ++ ⟨cbt.toArray⟩)) hS_w4 (fun W hSW=>?_) ?_
  ·skip;(try go_simp)<;>(try omega)
  refine qT 15 4 (.string ((⟨#[116]⟩:ByteArray) ++ ⟨fb.toArray⟩ ++ ⟨ab.toArray⟩ ++ ⟨cbt.toArray⟩)) hS_w4 (fun W hSW=>?_) ?_
  ·skip;(try go_simp)<;>(try omega)
  try simp only [Act.put,eA,eB,eC]
  refine wpAnyH_done (by kernel_rfl) ?_ _;go_wp2;go_ret;rw [HE.out];exact ⟨rfl,B0.out.trans (hS_w4.mono (Nat.le_of_lt Z1.out))⟩
end Go.Proofs.YtcaahdjhbmmcnaaGreatDoor
