/- TRead TReadW TReadL TReadT -/
import Derived.Test.YtcaahdjhbmmcnaaGreatDoorYA3
set_option maxRecDepth 100000
set_option maxHeartbeats 16000000
set_option linter.unusedSimpArgs false
set_option linter.unusedVariables false
namespace Go.Proofs.YtcaahdjhbmmcnaaGreatDoor
open Go.ChangeShapes Go.WideShapes Go.ChangeAt Go.RowKit
def flatN (ns:List Nd):List Value:=ns.flatMap Nd.cells
theorem cells_len (n:Nd):n.cells.length=7:=rfl
theorem flatN_append (a b:List Nd):flatN (a ++ b)=flatN a ++ flatN b:=by simp [flatN]
theorem flatN_one (n:Nd):flatN [n]=n.cells:=by simp [flatN]
theorem infoNode:(Tryz.prog.info? 94).map (fun i=>(i.zero,i.size,i.bytes))=some (some (.agg #[.int .u8 0,.int .i64 0,.int .i64 0,.int .i64 0,.int .i64 0,.string ⟨#[]⟩,.slice none 0 0]),7,80):=by kernel_rfl
def Rep (W:World) (B:Nat) (ns:List Nd):Nat->Tm->Prop
 | k,.var n=>∃ nd,ns[k]?=some nd/\LeafIs W B nd (.var n)
 | k,.sort l=>∃ nd,ns[k]?=some nd/\LeafIs W B nd (.sort l)
 | k,.const n ls=>∃ nd,ns[k]?=some nd/\LeafIs W B nd (.const n ls)
 | k,.app f a=>∃ nd,ns[k]?=some nd/\nd.kind=64/\Rep W B ns nd.a f/\Rep W B ns nd.b a
 | k,.lam d b=>∃ nd,ns[k]?=some nd/\nd.kind=108/\Rep W B ns nd.a d/\Rep W B ns nd.b b
 | k,.pi d b=>∃ nd,ns[k]?=some nd/\nd.kind=112/\Rep W B ns nd.a d/\Rep W B ns nd.b b
 | k,.lett t v b=>∃ nd,ns[k]?=some nd/\nd.kind=116/\Rep W B ns nd.a t/\Rep W B ns nd.b v/\Rep W B ns nd.c b
def KeepS (B:Nat) (W W':World):Prop:=∀ v n xs,W.ownsRow B 9 1 v n xs->W'.ownsRow B 9 1 v n xs
theorem KeepS.trans {B:Nat} {W W1 W2:World} (h:KeepS B W W1) (k:KeepS B W1 W2):KeepS B W W2:=fun v n xs hv=>k v n xs (h v n xs hv)
theorem KeepS.refl (B:Nat) (W:World):KeepS B W W:=fun _ _ _ h=>h
theorem LeafIs.keep {W W':World} {B:Nat} {nd:Nd} {t:Tm} (h:LeafIs W B nd t) (hk:KeepS B W W'):LeafIs W' B nd t:=by
 cases t with
 | const n ls=>exact ⟨h.1,h.2.1,hk _ _ _ h.2.2⟩
 | _=>exact h
def Ext (ns ns':List Nd):Prop:=∀ (i:Nat) nd,ns[i]?=some nd->ns'[i]?=some nd
theorem Ext.refl (ns:List Nd):Ext ns ns:=fun _ _ h=>h
theorem Ext.trans {a b c:List Nd} (h:Ext a b) (k:Ext b c):Ext a c:=fun i nd hi=>k i nd (h i nd hi)
theorem Ext.snoc (ns:List Nd) (nd:Nd):Ext ns (ns ++ [nd]):=fun i x h=>by
 have hi:i < ns.length:=by
  by_cases hi:i < ns.length
  ·exact hi
  ·rw [List.getElem?_eq_none (by omega)] at h;cases h
 rw [List.getElem?_append_left hi];exact h
theorem Rep.keep {W W':World} {B:Nat} {ns ns':List Nd} (hk:KeepS B W W') (he:Ext ns ns'):∀ (t:Tm) (k:Nat),Rep W B ns k t->Rep W' B ns' k t
 | .var _,_,⟨nd,h1,h2⟩=>⟨nd,he _ _ h1,h2⟩
 | .sort _,_,⟨nd,h1,h2⟩=>⟨nd,he _ _ h1,h2⟩
 | .const _ _,_,⟨nd,h1,h2⟩=>⟨nd,he _ _ h1,h2.keep hk⟩
 | .app f a,_,⟨nd,h1,h2,h3,h4⟩=>⟨nd,he _ _ h1,h2,Rep.keep hk he f _ h3,Rep.keep hk he a _ h4⟩
 | .lam f a,_,⟨nd,h1,h2,h3,h4⟩=>⟨nd,he _ _ h1,h2,Rep.keep hk he f _ h3,Rep.keep hk he a _ h4⟩
 | .pi f a,_,⟨nd,h1,h2,h3,h4⟩=>⟨nd,he _ _ h1,h2,Rep.keep hk he f _ h3,Rep.keep hk he a _ h4⟩
 | .lett f a b,_,⟨nd,h1,h2,h3,h4,h5⟩=>⟨nd,he _ _ h1,h2,Rep.keep hk he f _ h3,Rep.keep hk he a _ h4,Rep.keep hk he b _ h5⟩
theorem Rep.leaf {W:World} {B:Nat} {ns:List Nd} {k:Nat} {nd:Nd} {t:Tm} (hl:t.isLeaf=true) (h:LeafIs W B nd t) (hk:ns[k]?=some nd):Rep W B ns k t:=by
 cases t with
 | var n=>exact ⟨nd,hk,h⟩
 | sort l=>exact ⟨nd,hk,h⟩
 | const n ls=>exact ⟨nd,hk,h⟩
 | _=>cases hl
theorem LeafIs.weaken {W:World} {B B':Nat} {nd:Nd} {t:Tm} (h:LeafIs W B nd t) (hb:B'<=B):LeafIs W B' nd t:=by
 cases t with
 | const n ls=>exact ⟨h.1,h.2.1,own_weakenL h.2.2 hb⟩
 | _=>exact h
structure NSt (B cb:Nat) (W:World) (vn:Value) (ns:List Nd):Prop where
 cell:W.cell? ⟨cb,0,none⟩=some vn
 froz:W.frozen? ⟨cb,0,none⟩=false
 row:W.ownsRow (cb - 1) 94 7 vn ns.length (flatN ns)
 ne:vn.ownBlock≠some cb
 sl:∀ nd∈ns,∃ a n c,nd.lv=.slice a n c
 lt:cb < B
 le:B<=W.heap.size
structure KeepN (B cb:Nat) (W:World) (vn:Value) (W':World) (vn':Value):Prop where
 os:W'.os=W.os
 tape:W'.tape=W.tape
 output:W'.output=W.output
 size:W.heap.size<=W'.heap.size
 block:∀ i,i < W.heap.size->i≠cb->vn.ownBlock≠some i->W'.heap[i]?=W.heap[i]?
 own:vn'.ownBlock=vn.ownBlock\/∀ g,vn'.ownBlock=some g->W.heap.size<=g
theorem KeepN.refl (B cb:Nat) (W:World) (vn:Value):KeepN B cb W vn W vn:=⟨rfl,rfl,rfl,nR _,fun _ _ _ _=>rfl,.inl rfl⟩
theorem KeepN.trans {B cb:Nat} {W W1 W2:World} {v v1 v2:Value} (h:KeepN B cb W v W1 v1) (k:KeepN B cb W1 v1 W2 v2):KeepN B cb W v W2 v2:=by
 refine ⟨k.os.trans h.os,k.tape.trans h.tape,k.output.trans h.output,Nat.le_trans h.size k.size,fun i hi hc hv=>?_,?_⟩
 ·refine (k.block i (Nat.lt_of_lt_of_le hi h.size) hc (fun e=>?_)).trans (h.block i hi hc hv);rcases h.own with h1 | h1
  ·exact hv (h1 ▸ e)
  ·have:=h1 i e;omega
 ·rcases k.own with k1 | k1
  ·rcases h.own with h1 | h1
   ·exact .inl (k1.trans h1)
   ·exact .inr fun g hg=>h1 g (k1 ▸ hg)
  ·exact .inr fun g hg=>Nat.le_trans h.size (k1 g hg)
theorem KeepN.below {B cb:Nat} {W W':World} {v:Value} (hb:Below W.heap.size W W'):KeepN B cb W v W' v := ⟨hb.os,hb.tape,hb.output,hb.size,fun i hi _ _=>hb.block i hi,.inl rfl⟩
theorem KeepN.strs {B cb:Nat} {W W':World} {v v':Value} {ns:List Nd} (h:KeepN B cb W v W' v') (hn:NSt B cb W v ns):KeepS B W W':=by
 intro u n xs hu;refine ⟨hu.1,?_⟩;rcases hu.2 with hz | ⟨g,cap,cur,e,hb,hg,rest⟩
 ·exact .inl hz
 ·refine .inr ⟨g,cap,cur,e,hb,?_,rest⟩;have hlt:g < W.heap.size:=(Array.getElem?_eq_some_iff.1 hg).1;rw [h.block g hlt (by have:=hn.lt;omega) (fun ho=>?_)]
  ·exact hg
  ·rcases hn.row.2 with ⟨e2,_⟩ | ⟨g2,cap2,cur2,e2,_,hg2,_⟩
   ·rw [e2] at ho;cases ho
   ·rw [e2] at ho;simp only [Value.ownBlock,Option.some.injEq] at ho;subst ho;rw [hg] at hg2;simp only [Option.some.injEq,Obj.cells.injEq] at hg2;exact absurd hg2.2.1 (by decide)
theorem NSt.below {B cb:Nat} {W W':World} {v:Value} {ns:List Nd} (h:NSt B cb W v ns) (hb:Below W.heap.size W W'):NSt B cb W' v ns:=by
 have hl:cb < W.heap.size:=Nat.lt_of_lt_of_le h.lt h.le;exact ⟨(hb.cell (p:=⟨cb,0,none⟩) hl).trans h.cell,(hb.frozen (p:=⟨cb,0,none⟩) hl).trans h.froz,own_below h.row hb,h.ne,h.sl,h.lt,Nat.le_trans h.le hb.size⟩
theorem NSt.push {B cb g:Nat} {W W1 w6:World} {v v':Value} {ns:List Nd} {nd:Nd} (h:NSt B cb W v ns) (hb:Below W.heap.size W W1) (hg:W1.grownBy w6 v.ownBlock)
  (hr:w6.ownsRow (cb - 1) 94 7 v' (ns.length+1) (flatN ns ++ nd.cells)) (hv:v'.ownBlock=some g) (ho:v.ownBlock=some g\/W.heap.size<=g) (hsl:∃ a n c,nd.lv=.slice a n c) :
  NSt B cb (w6.setCell ⟨cb,0,none⟩ v') v' (ns ++ [nd])/\KeepN B cb W v (w6.setCell ⟨cb,0,none⟩ v') v':=by
 have h1:=h.below hb;have hl:cb < W1.heap.size:=Nat.lt_of_lt_of_le h1.lt h1.le;have hne:some cb≠v.ownBlock:=fun e=>h.ne e.symm;have hgc:v'.ownBlock≠some cb:=fun e=>by
  rw [hv] at e;injection e with e;subst e;rcases ho with ho | ho
  ·exact h.ne ho
  ·have:=h.lt;have:=h.le;omega
 have hblk:=hg.block cb hl hne;have hc:w6.cell? ⟨cb,0,none⟩=some v:=(World.cell?_of_block (a:=⟨cb,0,none⟩) hblk).trans h1.cell;have hf:w6.frozen? ⟨cb,0,none⟩=false:=(World.frozen?_of_block (a:=⟨cb,0,none⟩) hblk).trans h1.froz;refine ⟨⟨World.cell?_setCell_same _ _ _ hc,by simpa using hf,?_,hgc,fun x hx=>?_,h.lt,?_⟩,?_⟩
 ·have:=hr.kept (w':=w6.setCell ⟨cb,0,none⟩ v') (row:=some cb) ⟨rfl,rfl,rfl,by simp [World.setCell],fun k hk hne=>Below.heap_setCell _ _ _ _ (fun e=>hne (by rw [e]))⟩ (.inr hgc);rw [flatN_append,flatN_one,lA];exact this
 ·rcases List.mem_append.1 hx with hx | hx
  ·exact h.sl x hx
  ·simp only [List.mem_cons,List.not_mem_nil,or_false] at hx;subst hx;exact hsl
 ·have h3:(w6.setCell ⟨cb,0,none⟩ v').heap.size=w6.heap.size:=(by simp [World.setCell]);have:=hg.size;have:=h1.le;omega
 ·refine ⟨hg.os.trans hb.os,hg.tape.trans hb.tape,hg.output.trans hb.output,?_,fun i hi hic hiv=>?_,?_⟩
  ·have h3:(w6.setCell ⟨cb,0,none⟩ v').heap.size=w6.heap.size:=(by simp [World.setCell]);have:=hg.size;have:=hb.size;omega
  ·refine (Below.heap_setCell _ _ _ _ (fun e=>hic e)).trans ?_;exact (hg.block i (Nat.lt_of_lt_of_le hi hb.size) (fun e=>hiv e.symm)).trans (hb.block i hi)
  ·rcases ho with ho | ho
   ·exact .inl (hv.trans ho.symm)
   ·exact .inr fun x hx=>by
     rw [hv] at hx;cases hx;exact ho
def Pos (ns:List Nd):Nat->Tm->Prop
  | _,.var _=>True
  | _,.sort _=>True
  | _,.const _ _=>True
  | k,.app f a=>∃ nd,ns[k]?=some nd/\nd.lv=.slice none 0 0/\nd.b+1=k/\nd.a+a.size+1=k/\Pos ns nd.a f/\Pos ns nd.b a
  | k,.lam f a=>∃ nd,ns[k]?=some nd/\nd.lv=.slice none 0 0/\nd.b+1=k/\nd.a+a.size+1=k/\Pos ns nd.a f/\Pos ns nd.b a
  | k,.pi f a=>∃ nd,ns[k]?=some nd/\nd.lv=.slice none 0 0/\nd.b+1=k/\nd.a+a.size+1=k/\Pos ns nd.a f/\Pos ns nd.b a
  | k,.lett f a b=>∃ nd,ns[k]?=some nd/\nd.lv=.slice none 0 0/\nd.c+1=k/\nd.b+b.size+1=k/\nd.a+a.size+b.size+1=k/\Pos ns nd.a f/\Pos ns nd.b a/\Pos ns nd.c b
theorem Pos.keep {ns ns':List Nd} (he:Ext ns ns'):∀ (t:Tm) (k:Nat),Pos ns k t->Pos ns' k t
  | .var _,_,_=>trivial
  | .sort _,_,_=>trivial
  | .const _ _,_,_=>trivial
  | .app f a,_,⟨nd,h1,h0,h2,h3,h4,h5⟩=>⟨nd,he _ _ h1,h0,h2,h3,Pos.keep he f _ h4,Pos.keep he a _ h5⟩
  | .lam f a,_,⟨nd,h1,h0,h2,h3,h4,h5⟩=>⟨nd,he _ _ h1,h0,h2,h3,Pos.keep he f _ h4,Pos.keep he a _ h5⟩
  | .pi f a,_,⟨nd,h1,h0,h2,h3,h4,h5⟩=>⟨nd,he _ _ h1,h0,h2,h3,Pos.keep he f _ h4,Pos.keep he a _ h5⟩
  | .lett f a b,_,⟨nd,h1,h0,h2,h3,h4,h5,h6,h7⟩=>⟨nd,he _ _ h1,h0,h2,h3,h4,Pos.keep he f _ h5,Pos.keep he a _ h6,Pos.keep he b _ h7⟩
def RepP (W:World) (B:Nat) (ns:List Nd) (k:Nat) (t:Tm):Prop:=Rep W B ns k t/\Pos ns k t
theorem RepP.keep {W W':World} {B:Nat} {ns ns':List Nd} (hk:KeepS B W W') (he:Ext ns ns') (t:Tm) (k:Nat) (h:RepP W B ns k t):RepP W' B ns' k t :=
  ⟨Rep.keep hk he t k h.1,Pos.keep he t k h.2⟩
theorem RepP.leaf {W:World} {B:Nat} {ns:List Nd} {k:Nat} {nd:Nd} {t:Tm} (hl:t.isLeaf=true) (h:LeafIs W B nd t) (hk:ns[k]?=some nd):RepP W B ns k t :=
  ⟨Rep.leaf hl h hk,by cases t<;>first | trivial | cases hl⟩
def ReadPost (l:List UInt8) (p B cb:Nat) (W:World) (v:Value) (ns:List Nd) (e:Ending) (W':World):Prop :=
  ∃ v' ns',NSt B cb W' v' ns'/\KeepN B cb W v W' v'/\KeepS B W W'/\Ext ns ns' /\
    ((∃ t r,Tat (l.drop p) t r/\ns'.length=ns.length+t.size/\RepP W' B ns' (ns'.length - 1) t/\e=.returned (.tuple #[.int .i64 ((ns'.length:Int) - 1),.int .i64 ((p+t.bytes.length:Nat):Int)])) \/
     ((∀ t r,¬ Tat (l.drop p) t r)/\e=.returned (.tuple #[.int .i64 (-1),.int .i64 (-1)])))
theorem own_sliceN {w:World} {b n:Nat} {v:Value} {xs:List Value} (h:w.ownsRow b 94 7 v n xs):∃ a cap,v=.slice a n cap:=by
  rcases h.2 with ⟨rfl,rfl⟩ | ⟨g,cap,cur,rfl,_⟩
  · exact ⟨_,_,rfl⟩
  · exact ⟨_,_,rfl⟩
theorem read_end {l:List UInt8} {p:Nat} (hp:l.length<=p):∀ t r,¬ Tat (l.drop p) t r:=fun t r h=>by
  have h2:=h.2
  rw [List.drop_eq_nil_of_le hp] at h2
  have:=t.bytes_pos
  have h3:=congrArg List.length h2
  rw [lA] at h3
  simp at h3
  omega
theorem readEnd (s:ByteArray) (p:Nat) (W:World) {v:Value} {ns:List Nd} {B cb:Nat} (h:NSt B cb W v ns) (hp:s.size<=p) :
    Calls Tryz.prog 90 #[.string s,.int .i64 (p:Int),.pointer (some ⟨cb,0,none⟩)] W (ReadPost s.data.toList p B cb W v ns):=by
  have HN:=Ld (read_end (l:=s.data.toList) (p:=p) hp)
  have HH:=Ld h
  have d1:decide ((s.size:Int)<=(p:Int))=true:=dT (by omega)
  clear h
  go_enter Tryz.func90,Tryz.ntmps90
  go_wp2
  go_ret2
  exact ⟨v,ns,HH.out,KeepN.refl _ _ _ _,KeepS.refl _ _,Ext.refl _,.inr ⟨HN.out,rfl⟩⟩
theorem readLeaf (s:ByteArray) (p:Nat) (W:World) {v:Value} {ns:List Nd} {B cb:Nat} (h:NSt B cb W v ns) (hs:s.size<=100000) (hp:p < s.size) (hn:ns.length<=p)
    (h1:s[p]≠64) (h2:s[p]≠108) (h3:s[p]≠112) (h4:s[p]≠116) :
    Calls Tryz.prog 90 #[.string s,.int .i64 (p:Int),.pointer (some ⟨cb,0,none⟩)] W (ReadPost s.data.toList p B cb W v ns):=by
  have f1:=Ld fun W=>specLeaf s p W (by omega) hp
  have d1:decide ((s.size:Int)<=(p:Int))=false:=dF (by omega)
  have d1n:decide (s.size<=p)=false:=dF (by omega)
  have e1:((s[p].toNat:Int) == 64)=false:=ne_byte h1
  have e2:((s[p].toNat:Int) == 108)=false:=ne_byte h2
  have e3:((s[p].toNat:Int) == 112)=false:=ne_byte h3
  have e4:((s[p].toNat:Int) == 116)=false:=ne_byte h4
  have HL:Hid (∀ t r,Tat (s.data.toList.drop p) t r->t.isLeaf=true):=fun t r ht=>by
    have hk:=tat_head (l:=s.data.toList) hp ht
    cases t with
    | app f a=>exact absurd hk.symm h1
    | lam f a=>exact absurd hk.symm h2
    | pi f a=>exact absurd hk.symm h3
    | lett f a b=>exact absurd hk.symm h4
    | _=>rfl
  clear h1 h2 h3 h4
  have q1:=zn p
  have q2:(p:Int) < (s.size:Int):=by omega
  have HH:=Ld h
  clear h
  go_enter Tryz.func90,Tryz.ntmps90
  go_wp2_with fail
  (with_reducible refine (f1.out _).mono ?_);rintro e W1 ⟨hb1,⟨k,na,nb,nc,num,tx,lv⟩,en,⟨sa,sn,sc,hlv⟩,rfl,(⟨t,r,ht1,ht2,ht3,rfl⟩ | ⟨rfl,hno⟩)⟩
  · have hlv:lv=.slice sa sn sc:=hlv
    subst hlv
    have hlen:=congrArg List.length ht3.2
    rw [lA,List.length_drop] at hlen
    have hls:s.data.toList.length=s.size:=rfl
    have hen:p+t.bytes.length<=s.size:=by omega
    have d2:decide (((p+t.bytes.length:Nat):Int) < 0)=false:=dF (by omega)
    have HT:=Ld ht3
    have HI:=Ld ht2
    have hsz:t.size=1:=by
      cases t with
      | var n=>rfl
      | sort n=>rfl
      | const n ls=>rfl
      | _=>cases ht1
    have HSZ:=Ld hsz
    have HLF:=Ld ht1
    clear hlen hls ht3 ht2 hsz ht1 f1 HL
    generalize hm:p+t.bytes.length=m at d2 hen
    have HM:=Ld hm
    clear hm
    simp only [Nd.cells]
    have hs2:=HH.out.below hb1
    have b2:=(bR W1.heap.size W1).alloc (nR _) (.cells #[.int .u8 (k.toNat:Int),.int .i64 (na:Int),.int .i64 (nb:Int),.int .i64 (nc:Int),.int .i64 (num:Int),.string ⟨tx.toArray⟩,.slice sa sn sc] 94)
    have hs3:=hs2.below b2
    obtain ⟨i0,hi,hz0,hz1,hz2⟩:=info_parts infoNode
    obtain ⟨la,lc,rfl⟩:=own_sliceN HH.out.row
    have hc:∀ j u,([.int .u8 (k.toNat:Int),.int .i64 (na:Int),.int .i64 (nb:Int),.int .i64 (nc:Int),.int .i64 (num:Int),.string ⟨tx.toArray⟩,.slice sa sn sc]:List Value)[j]?=some u->(W1.alloc (.cells #[.int .u8 (k.toNat:Int),.int .i64 (na:Int),.int .i64 (nb:Int),.int .i64 (nc:Int),.int .i64 (num:Int),.string ⟨tx.toArray⟩,.slice sa sn sc] 94)).cell? ⟨W1.heap.size,j,none⟩=some u:=fun j u hu=>by
      have:=World.news_of_block (cs:=#[.int .u8 (k.toNat:Int),.int .i64 (na:Int),.int .i64 (nb:Int),.int .i64 (nc:Int),.int .i64 (num:Int),.string ⟨tx.toArray⟩,.slice sa sn sc]) (t:=94) (fr:=(0,0)) (heap_alloc_new W1 _) j u hu
      rw [add_plain,Nat.zero_add] at this
      exact this
    have zW2:W1.heap.size < (W1.alloc (.cells #[.int .u8 (k.toNat:Int),.int .i64 (na:Int),.int .i64 (nb:Int),.int .i64 (nc:Int),.int .i64 (num:Int),.string ⟨tx.toArray⟩,.slice sa sn sc] 94)).heap.size:=by simp
    have B2:=bt hb1 b2
    generalize hW2:W1.alloc (.cells #[.int .u8 (k.toNat:Int),.int .i64 (na:Int),.int .i64 (nb:Int),.int .i64 (nc:Int),.int .i64 (num:Int),.string ⟨tx.toArray⟩,.slice sa sn sc] 94)=W2 at hs3 hc zW2 b2 B2
    have g0:=hc 0 _ rfl
    have g1:=hc 1 _ rfl
    have g2:=hc 2 _ rfl
    have g3:=hc 3 _ rfl
    have g4:=hc 4 _ rfl
    have g5:=hc 5 _ rfl
    have g6:=hc 6 _ rfl
    have b3:=(bR W2.heap.size W2).alloc (nR _) (.cells #[.int .u8 (k.toNat:Int),.int .i64 (na:Int),.int .i64 (nb:Int),.int .i64 (nc:Int),.int .i64 (num:Int),.string ⟨tx.toArray⟩,.slice sa sn sc] 94)
    have hs4:=hs3.below b3
    have k0:=(b3.cell (p:=⟨W1.heap.size,0,none⟩) zW2).trans g0
    have k1:=(b3.cell (p:=⟨W1.heap.size,1,none⟩) zW2).trans g1
    have k2:=(b3.cell (p:=⟨W1.heap.size,2,none⟩) zW2).trans g2
    have k3:=(b3.cell (p:=⟨W1.heap.size,3,none⟩) zW2).trans g3
    have k4:=(b3.cell (p:=⟨W1.heap.size,4,none⟩) zW2).trans g4
    have k5:=(b3.cell (p:=⟨W1.heap.size,5,none⟩) zW2).trans g5
    have k6:=(b3.cell (p:=⟨W1.heap.size,6,none⟩) zW2).trans g6
    have cb3:=hs3.cell
    have cb4:=hs4.cell
    have cf3:=hs3.froz
    have cf4:=hs4.froz
    have hown:=hs3.row
    have hle:=hs3.le
    clear hc b2
    have HB1:=Ld hb1
    clear hb1
    subst hW2
    have zB:=HH.out.lt
    have hnl:ns.length<=100000:=by omega
    have hle1:=hs2.le
    have hcb:cb < ((W1.alloc (.cells #[.int .u8 (k.toNat:Int),.int .i64 (na:Int),.int .i64 (nb:Int),.int .i64 (nc:Int),.int .i64 (num:Int),.string ⟨tx.toArray⟩,.slice sa sn sc] 94)).alloc (.cells #[.int .u8 (k.toNat:Int),.int .i64 (na:Int),.int .i64 (nb:Int),.int .i64 (nc:Int),.int .i64 (num:Int),.string ⟨tx.toArray⟩,.slice sa sn sc] 94)).drew.heap.size:=Nat.lt_of_lt_of_le hs4.lt hs4.le
    have hne:some cb≠(Value.slice la ns.length lc).ownBlock:=fun e=>hs3.ne e.symm
    have HS2:=Ld hs2
    have HB3:Hid (Below W1.heap.size W1 ((W1.alloc (.cells #[.int .u8 (k.toNat:Int),.int .i64 (na:Int),.int .i64 (nb:Int),.int .i64 (nc:Int),.int .i64 (num:Int),.string ⟨tx.toArray⟩,.slice sa sn sc] 94)).alloc (.cells #[.int .u8 (k.toNat:Int),.int .i64 (na:Int),.int .i64 (nb:Int),.int .i64 (nc:Int),.int .i64 (num:Int),.string ⟨tx.toArray⟩,.slice sa sn sc] 94)).drew):=(((bR W1.heap.size W1).alloc (nR _) _).alloc (by simp) _).drew
    clear hs2 hs3 hs4 b3
    go_wp2_with fail
    go_region_law (first
      | (refine step_append_lies _ (by rfl) _ _ _ (by rfl) (cb - 1) 94 i0 _ 7 80 Tryz.underlying91 hi hz0 hz1 hz2 rfl (by decide) (.slice la ns.length lc) ns.length _ (by rfl) ((hown.alloc _).drew)
          ⟨(W1.alloc (.cells #[.int .u8 (k.toNat:Int),.int .i64 (na:Int),.int .i64 (nb:Int),.int .i64 (nc:Int),.int .i64 (num:Int),.string ⟨tx.toArray⟩,.slice sa sn sc] 94)).heap.size,0,none⟩ 1 1 [.int .u8 (k.toNat:Int),.int .i64 (na:Int),.int .i64 (nb:Int),.int .i64 (nc:Int),.int .i64 (num:Int),.string ⟨tx.toArray⟩,.slice sa sn sc] (by simp [Act.eval]) (by rfl) (World.news_of_block (cs:=#[.int .u8 (k.toNat:Int),.int .i64 (na:Int),.int .i64 (nb:Int),.int .i64 (nc:Int),.int .i64 (num:Int),.string ⟨tx.toArray⟩,.slice sa sn sc]) (t:=94) (fr:=(0,0)) (heap_alloc_new (W1.alloc (.cells #[.int .u8 (k.toNat:Int),.int .i64 (na:Int),.int .i64 (nb:Int),.int .i64 (nc:Int),.int .i64 (num:Int),.string ⟨tx.toArray⟩,.slice sa sn sc] 94)) _)) (by simp [Value.oneCell'])
          (by decide) (by unfold maxLen;omega) (by omega) (by simp;omega) (W1.heap.size+1+1) (by simp) ?_;intro g cap w6 hown6 hgrow6 hat6 hlt6
         have m0:w6.cell? ⟨cb,0,none⟩=some (.slice la ns.length lc):=(World.cell?_of_block (a:=⟨cb,0,none⟩) (hgrow6.block cb hcb hne)).trans cb4
         have mf:w6.frozen? ⟨cb,0,none⟩=false:=(World.frozen?_of_block (a:=⟨cb,0,none⟩) (hgrow6.block cb hcb hne)).trans cf4))
    all_goals
      have P:=HS2.out.push (g:=g) (nd:=⟨k,na,nb,nc,num,tx,.slice sa sn sc⟩) HB3.out hgrow6 hown6 rfl (by rcases hat6 with h | h;exact .inl h;exact .inr (by rw [h];omega)) ⟨_,_,_,rfl⟩
      have PP:=Ld P
      have hz1:=HB1.out.size
      clear P hown6 hgrow6 hat6
      go_wp2
      go_ret2
      have hk:=(KeepN.below (B:=B) (cb:=cb) (v:=.slice la ns.length lc) HB1.out).trans PP.out.2
      refine ⟨_,ns ++ [⟨k,na,nb,nc,num,tx,.slice sa sn sc⟩],PP.out.1,hk,hk.strs HH.out,Ext.snoc _ _,.inl ⟨t,r,HT.out,by rw [HSZ.out];simp,?_,?_⟩⟩
      · refine RepP.leaf HLF.out ((HI.out.weaken HH.out.le).keep (PP.out.2.strs HS2.out)) ?_
        simp
      · rw [HM.out]
        simp
  · have hlv:lv=.slice sa sn sc:=hlv
    subst hlv
    have HN:Hid (∀ t r,¬ Tat (s.data.toList.drop p) t r):=fun t r ht=>by
      have h1:=hno t r ht
      rw [HL.out t r ht] at h1
      cases h1
    clear hno HL
    have HB1:=Ld hb1
    clear hb1
    simp only [Nd.cells]
    go_wp2
    go_ret2
    have hb:=HB1.out.trans (((bR W1.heap.size W1).alloc (nR _) (.cells #[.int .u8 (k.toNat:Int),.int .i64 (na:Int),.int .i64 (nb:Int),.int .i64 (nc:Int),.int .i64 (num:Int),.string ⟨tx.toArray⟩,.slice sa sn sc] 94)).mono HB1.out.size)
    exact ⟨v,ns,HH.out.below hb,KeepN.below hb,(KeepN.below (B:=B) (cb:=cb) (v:=v) hb).strs HH.out,Ext.refl _,.inr ⟨HN.out,rfl⟩⟩
structure Two (c:UInt8) (K:Tm->Tm->Tm):Prop where
 bytes:∀ f a,(K f a).bytes=c :: (f.bytes ++ a.bytes)
 ok:∀ f a,(K f a).Ok↔f.Ok/\a.Ok
 size:∀ f a,(K f a).size=f.size+a.size+1
 inv:∀ t,t.kind=c->∃ f a,t=K f a
 rep:∀ (W:World) (B:Nat) (ns:List Nd) (k:Nat) (f a:Tm) (nd:Nd),ns[k]?=some nd->nd.kind=c->nd.lv=.slice none 0 0->nd.b+1=k->nd.a+a.size+1=k->RepP W B ns nd.a f->RepP W B ns nd.b a->RepP W B ns k (K f a)
theorem twoApp:Two 64 .app:=⟨fun _ _=>rfl,fun _ _=>Iff.rfl,fun _ _=>rfl,fun t h=>by
 cases t with
 | app f a=>exact ⟨f,a,rfl⟩
 | _=>exact absurd h (by simp only [Tm.kind];decide),fun _ _ _ _ _ _ nd h1 h2 p0 p1 p2 h3 h4=>⟨⟨nd,h1,h2,h3.1,h4.1⟩,⟨nd,h1,p0,p1,p2,h3.2,h4.2⟩⟩⟩
theorem twoLam:Two 108 .lam:=⟨fun _ _=>rfl,fun _ _=>Iff.rfl,fun _ _=>rfl,fun t h=>by
 cases t with
 | lam f a=>exact ⟨f,a,rfl⟩
 | _=>exact absurd h (by simp only [Tm.kind];decide),fun _ _ _ _ _ _ nd h1 h2 p0 p1 p2 h3 h4=>⟨⟨nd,h1,h2,h3.1,h4.1⟩,⟨nd,h1,p0,p1,p2,h3.2,h4.2⟩⟩⟩
theorem twoPi:Two 112 .pi:=⟨fun _ _=>rfl,fun _ _=>Iff.rfl,fun _ _=>rfl,fun t h=>by
 cases t with
 | pi f a=>exact ⟨f,a,rfl⟩
 | _=>exact absurd h (by simp only [Tm.kind];decide),fun _ _ _ _ _ _ nd h1 h2 p0 p1 p2 h3 h4=>⟨⟨nd,h1,h2,h3.1,h4.1⟩,⟨nd,h1,p0,p1,p2,h3.2,h4.2⟩⟩⟩
theorem drop_part {l r:List UInt8} {p:Nat} {x:List UInt8} (h:l.drop p=x ++ r):l.drop (p+x.length)=r:=by
 rw [← List.drop_drop,h,List.drop_left]
theorem Two.split {c:UInt8} {K:Tm->Tm->Tm} (hT:Two c K) {l r:List UInt8} {p:Nat} {f a:Tm} (h:Tat (l.drop p) (K f a) r) :
  Tat (l.drop (p+1)) f (a.bytes ++ r)/\Tat (l.drop (p+1+f.bytes.length)) a r:=by
 have h1:=(hT.ok f a).1 h.1;have hk:(K f a).bytes=(K f a).kind :: (f.bytes ++ a.bytes):=by
  obtain ⟨x,hx⟩:=(K f a).bytes_head;have:=hT.bytes f a;rw [hx] at this;injection this with e1 e2;rw [hx,e2]
 have h2:l.drop (p+1)=f.bytes ++ (a.bytes ++ r):=by
  rw [tat_tail h hk,List.append_assoc]
 exact ⟨⟨h1.1,h2⟩,h1.2,drop_part h2⟩
theorem Two.join {c:UInt8} {K:Tm->Tm->Tm} (hT:Two c K) {l r1 r:List UInt8} {p:Nat} {f a:Tm} (hp:p < l.length) (hc:l[p]=c) (h1:Tat (l.drop (p+1)) f r1) (h2:Tat (l.drop (p+1+f.bytes.length)) a r):Tat (l.drop p) (K f a) r:=by
 refine ⟨(hT.ok f a).2 ⟨h1.1,h2.1⟩,?_⟩;have e:=drop_part h1.2;rw [List.drop_eq_getElem_cons hp,hc,hT.bytes,h1.2,← e,h2.2];simp
theorem Two.no1 {c:UInt8} {K:Tm->Tm->Tm} (hT:Two c K) {l:List UInt8} {p:Nat} (hp:p < l.length) (hc:l[p]=c) (h:∀ t r,¬ Tat (l.drop (p+1)) t r):∀ t r,¬ Tat (l.drop p) t r:=fun t r ht=>by
 obtain ⟨f,a,rfl⟩:=hT.inv t ((tat_head hp ht).trans hc);exact h f _ (hT.split ht).1
theorem Two.no2 {c:UInt8} {K:Tm->Tm->Tm} (hT:Two c K) {l r1:List UInt8} {p:Nat} {f:Tm} (hp:p < l.length) (hc:l[p]=c) (h1:Tat (l.drop (p+1)) f r1) (h:∀ t r,¬ Tat (l.drop (p+1+f.bytes.length)) t r):∀ t r,¬ Tat (l.drop p) t r:=fun t r ht=>by
 obtain ⟨f',a,rfl⟩:=hT.inv t ((tat_head hp ht).trans hc);obtain ⟨h2,h3⟩:=hT.split ht;obtain ⟨rfl,_⟩:=h1.uniq h2;exact h a _ h3
def NBox (nb:Nat) (W:World) (c:Int) (a b d:Nat):Prop :=
 W.heap[nb]?=some (.cells #[.int .u8 c,.int .i64 (a:Int),.int .i64 (b:Int),.int .i64 (d:Int),.int .i64 0,.string ⟨#[]⟩,.slice none 0 0] 94 (0,0))
theorem KeepS.set {B nb i:Nat} {W:World} {c:Int} {a b d:Nat} (h:NBox nb W c a b d) (u:Value):KeepS B W (W.setCell ⟨nb,i,none⟩ u):=fun v n xs hv=>by
 refine ⟨hv.1,?_⟩;rcases hv.2 with hz | ⟨g,cap,cur,e,hb,hg,rest⟩
 ·exact .inl hz
 ·refine .inr ⟨g,cap,cur,e,hb,?_,rest⟩;rw [heap_setCell_other _ _ _ _ (fun e=>?_)]
  ·exact hg
  ·have e:g=nb:=e;subst e;unfold NBox at h;rw [hg] at h;simp only [Option.some.injEq,Obj.cells.injEq] at h;exact absurd h.2.1 (by decide)
theorem NSt.setOther {B cb nb i:Nat} {W:World} {v:Value} {ns:List Nd} (h:NSt B cb W v ns) (hcb:nb≠cb) (hv:v.ownBlock≠some nb) (u:Value):NSt B cb (W.setCell ⟨nb,i,none⟩ u) v ns:=by
 refine ⟨(World.cell?_setCell_other _ _ _ _ (by intro e;have:=congrArg Addr.block e;simp at this;omega)).trans h.cell,by simpa using h.froz,?_,h.ne,h.sl,h.lt,by simpa [World.setCell] using h.le⟩;refine h.row.kept (row:=some nb) ⟨rfl,rfl,rfl,by simp [World.setCell],fun k hk hne=>Below.heap_setCell _ _ _ _ (fun e=>hne (by rw [e]))⟩ (.inr hv)
theorem KeepN.setOther {B cb nb i:Nat} {W W1:World} {v v1:Value} (h:KeepN B cb W v W1 v1) (hnb:W.heap.size<=nb) (u:Value):KeepN B cb W v (W1.setCell ⟨nb,i,none⟩ u) v1 := ⟨h.os,h.tape,h.output,by simpa [World.setCell] using h.size,fun k hk hc hv=>(Below.heap_setCell _ _ _ _ (fun e=>by have e:k=nb:=e;omega)).trans (h.block k hk hc hv),h.own⟩
theorem KeepN.nbox {B cb nb:Nat} {W W1:World} {v v1:Value} {c:Int} {a b d:Nat} (h:KeepN B cb W v W1 v1) (hb:NBox nb W c a b d) (hcb:nb≠cb) (hv:v.ownBlock≠some nb):NBox nb W1 c a b d/\v1.ownBlock≠some nb:=by
 have hlt:nb < W.heap.size:=(Array.getElem?_eq_some_iff.1 hb).1;refine ⟨(h.block nb hlt hcb hv).trans hb,fun e=>?_⟩;rcases h.own with h1 | h1
 ·exact hv (h1 ▸ e)
 ·have:=h1 nb e;omega
theorem NBox.set1 {nb:Nat} {W:World} {c:Int} {a b d:Nat} (h:NBox nb W c a b d) (k:Nat):NBox nb (W.setCell ⟨nb,1,none⟩ (.int .i64 (k:Int))) c k b d:=heap_setCell_same _ _ _ _ _ _ h
theorem NBox.set2 {nb:Nat} {W:World} {c:Int} {a b d:Nat} (h:NBox nb W c a b d) (k:Nat):NBox nb (W.setCell ⟨nb,2,none⟩ (.int .i64 (k:Int))) c a k d:=heap_setCell_same _ _ _ _ _ _ h
theorem NBox.set3 {nb:Nat} {W:World} {c:Int} {a b d:Nat} (h:NBox nb W c a b d) (k:Nat):NBox nb (W.setCell ⟨nb,3,none⟩ (.int .i64 (k:Int))) c a b k:=heap_setCell_same _ _ _ _ _ _ h
theorem NBox.cells {nb:Nat} {W:World} {c:Int} {a b d:Nat} (h:NBox nb W c a b d):W.cell? ⟨nb,0,none⟩=some (.int .u8 c)/\W.cell? ⟨nb,1,none⟩=some (.int .i64 (a:Int))/\W.cell? ⟨nb,2,none⟩=some (.int .i64 (b:Int))/\W.cell? ⟨nb,3,none⟩=some (.int .i64 (d:Int))/\W.cell? ⟨nb,4,none⟩=some (.int .i64 0)/\W.cell? ⟨nb,5,none⟩=some (.string ⟨#[]⟩)/\W.cell? ⟨nb,6,none⟩=some (.slice none 0 0) := ⟨cell_of_row _ _ _ _ _ _ h,cell_of_row _ _ _ _ _ _ h,cell_of_row _ _ _ _ _ _ h,cell_of_row _ _ _ _ _ _ h,cell_of_row _ _ _ _ _ _ h,cell_of_row _ _ _ _ _ _ h,cell_of_row _ _ _ _ _ _ h⟩
theorem NBox.frozen {nb:Nat} {W:World} {c:Int} {a b d:Nat} (h:NBox nb W c a b d) (i:Nat):W.frozen? ⟨nb,i,none⟩=false:=frozen_of_row _ _ _ _ _ h
theorem readTwoQ {q:UInt8} {b1 b2 b3:Bool} (h1:((q.toNat:Int) == 64)=b1) (h2:((q.toNat:Int) == 108)=b2) (h3:((q.toNat:Int) == 112)=b3) (h4:((q.toNat:Int) == 116)=false) (hb:b1=true\/(b1=false/\b2=true)\/(b1=false/\b2=false/\b3=true)) {K:Tm->Tm->Tm} (hT:Two q K) (s:ByteArray) (p:Nat) (W:World) {v:Value} {ns:List Nd} {B cb:Nat} (h:NSt B cb W v ns) (hs:s.size<=100000) (hp:p < s.size) (hn:ns.length<=p) (hc:s[p]=q)
    (IH:∀ p',p < p'->p'<=s.size->∀ (W:World) (v:Value) (ns:List Nd),NSt B cb W v ns->ns.length<=p'->Calls Tryz.prog 90 #[.string s,.int .i64 (p':Int),.pointer (some ⟨cb,0,none⟩)] W (ReadPost s.data.toList p' B cb W v ns)) :
    Calls Tryz.prog 90 #[.string s,.int .i64 (p:Int),.pointer (some ⟨cb,0,none⟩)] W (ReadPost s.data.toList p B cb W v ns):=by
  have hls:Hid (s.data.toList.length=s.size):=rfl
  have HT:=Ld hT
  have HIH:=Ld IH
  clear IH hT
  have HC:Hid (s.data.toList[p]'hp=q):=hc
  have e1:((s[p].toNat:Int) == 64)=b1:=by rw [hc];exact h1
  have e2:((s[p].toNat:Int) == 108)=b2:=by rw [hc];exact h2
  have e3:((s[p].toNat:Int) == 112)=b3:=by rw [hc];exact h3
  have e4:((s[p].toNat:Int) == 116)=false:=by rw [hc];exact h4
  have e9:(s[p].toNat:Int)=(q.toNat:Int):=by rw [hc]
  have d1:decide ((s.size:Int)<=(p:Int))=false:=dF (by omega)
  have d1n:decide (s.size<=p)=false:=dF (by omega)
  have q1:=zn p
  have q2:(p:Int) < (s.size:Int):=by omega
  clear hc
  have HH:=Ld h
  have zB:=h.lt
  have zL:=h.le
  have hcb:W.heap.size≠cb:=by omega
  have hv0:v.ownBlock≠some W.heap.size:=fun e=>by have:=(h.row.lt _ e).2;omega
  have hb0:=(bR W.heap.size W).alloc (nR _) (.cells #[.int .u8 (q.toNat:Int),.int .i64 0,.int .i64 0,.int .i64 0,.int .i64 0,.string ⟨#[]⟩,.slice none 0 0] 94)
  have hst0:=h.below hb0
  have hbx0:NBox W.heap.size (W.alloc (.cells #[.int .u8 (q.toNat:Int),.int .i64 0,.int .i64 0,.int .i64 0,.int .i64 0,.string ⟨#[]⟩,.slice none 0 0] 94)) (q.toNat:Int) 0 0 0:=heap_alloc_new W _
  have K0:=KeepN.below (B:=B) (cb:=cb) (v:=v) hb0
  have f1:=HIH.out (p+1) (by omega) (by omega) _ v ns hst0 (by omega)
  rw [show ((p+1:Nat):Int)=(p:Int)+1 by omega] at f1
  have F1:=Ld f1
  clear f1 h hb0
  obtain ⟨n0,n1,n2,n3,n4,n5,n6⟩:=hbx0.cells
  have HK0:=Ld K0
  have HBX0:=Ld hbx0
  clear K0 hbx0
  clear h1 h2 h3 h4
  rcases hb with rfl | ⟨rfl,rfl⟩ | ⟨rfl,rfl,rfl⟩
  all_goals (
    go_enter Tryz.func90,Tryz.ntmps90
    go_wp2_with fail
    refine wp_loop_rounds 3 ?_
    rw [rounds_succ]
    go_wp2_with fail
    (with_reducible refine F1.out.mono ?_);rintro e W1 ⟨v1,ns1,hst1,hkn1,hks1,hext1,(⟨t1,r1,ht1,hlen1,hrep1,he⟩ | ⟨hno,rfl⟩)⟩
    rotate_left
    · have HN:=Ld (HT.out.no1 hp HC.out hno)
      have HK:=Ld (HK0.out.trans hkn1)
      have HS1:=Ld hst1
      have HE:=Ld hext1
      clear hno hst1 hkn1 hks1 hext1 hst0
      go_wp2
      go_ret2
      exact ⟨v1,ns1,HS1.out,HK.out,HK.out.strs HH.out,HE.out,.inr ⟨HN.out,rfl⟩⟩
    have hsz1:=t1.size_pos
    obtain ⟨j1,hj1⟩:∃ j,ns1.length=j+1:=⟨ns1.length - 1,by omega⟩
    have hln1:=congrArg List.length ht1.2
    rw [lA,List.length_drop,hls.out] at hln1
    have hsl1:=t1.size_le
    rw [show ((ns1.length:Int) - 1)=(j1:Int) by omega] at he
    obtain ⟨m1,hm1⟩:∃ m,p+1+t1.bytes.length=m:=⟨_,rfl⟩
    rw [hm1] at he
    have hm1s:m1<=s.size:=by omega
    have hm1n:ns1.length<=m1:=by omega
    have hm1p:p < m1:=by omega
    have dm1:decide ((m1:Int) < 0)=false:=dF (by omega)
    have HM1:=Ld hm1
    have HLEN1:=Ld hlen1
    have HT1:=Ld ht1
    rw [show ns1.length - 1=j1 by omega] at hrep1
    have HREP1:=Ld hrep1
    have HJ1:=Ld hj1
    obtain ⟨hbx1,ho1⟩:=hkn1.nbox HBX0.out hcb hv0
    have HBX1:=Ld hbx1
    have HB1':=Ld (hbx1.set1 j1)
    have HS1:=Ld (hst1.setOther (i:=1) hcb ho1 (.int .i64 (j1:Int)))
    have HK1:=Ld ((HK0.out.trans hkn1).setOther (i:=1) (nR _) (.int .i64 (j1:Int)))
    have HE1:=Ld hext1
    have HKS1:=Ld (KeepS.set (B:=B) (i:=1) hbx1 (.int .i64 (j1:Int)))
    obtain ⟨a0,a1,a2,a3,a4,a5,a6⟩:=hbx1.cells
    have b1:=hbx1.frozen 1
    have f2:=Ld (HIH.out m1 hm1p hm1s _ v1 ns1 HS1.out hm1n)
    clear hsz1 hj1 hln1 hsl1 hm1 hlen1 ht1 hrep1 hkn1 hks1 hst1 hext1 hst0 n0 n1 n2 n3 n4 n5 n6 F1 hbx1
    subst he
    go_wp2_with fail
    rw [rounds_succ]
    go_wp2_with fail
    (with_reducible refine f2.out.mono ?_);rintro e W2 ⟨v2,ns2,hst2,hkn2,hks2,hext2,(⟨t2,r2,ht2,hlen2,hrep2,he⟩ | ⟨hno,rfl⟩)⟩
    rotate_left
    · have HN:=Ld (HT.out.no2 hp HC.out HT1.out (by rw [HM1.out];exact hno))
      have HK:=Ld (HK1.out.trans hkn2)
      have HS2:=Ld hst2
      have HE:=Ld (HE1.out.trans hext2)
      clear hno hst2 hkn2 hks2 hext2
      go_wp2
      go_ret2
      exact ⟨v2,ns2,HS2.out,HK.out,HK.out.strs HH.out,HE.out,.inr ⟨HN.out,rfl⟩⟩
    have hsz2:=t2.size_pos
    obtain ⟨j2,hj2⟩:∃ j,ns2.length=j+1:=⟨ns2.length - 1,by omega⟩
    have hln2:=congrArg List.length ht2.2
    rw [lA,List.length_drop,hls.out] at hln2
    have hsl2:=t2.size_le
    rw [show ((ns2.length:Int) - 1)=(j2:Int) by omega] at he
    obtain ⟨m2,hm2⟩:∃ m,m1+t2.bytes.length=m:=⟨_,rfl⟩
    rw [hm2] at he
    have hm2s:m2<=s.size:=by omega
    have hm2n:ns2.length<=m2:=by omega
    have dm2:decide ((m2:Int) < 0)=false:=dF (by omega)
    have HM2:=Ld hm2
    have HLEN2:=Ld hlen2
    have HT2:=Ld ht2
    rw [show ns2.length - 1=j2 by omega] at hrep2
    have HREP2:=Ld hrep2
    have HJ2:=Ld hj2
    obtain ⟨hbx2,ho2⟩:=hkn2.nbox HB1'.out hcb ho1
    have hbx3:=hbx2.set2 j2
    have hst3:=hst2.setOther (i:=2) hcb ho2 (.int .i64 (j2:Int))
    have HK3:=Ld ((HK1.out.trans hkn2).setOther (i:=2) (nR _) (.int .i64 (j2:Int)))
    have HE3:=Ld (HE1.out.trans hext2)
    have HKS2:=Ld ((HKS1.out.trans hks2).trans (KeepS.set (B:=B) (i:=2) hbx2 (.int .i64 (j2:Int))))
    have HKS3:=Ld (KeepS.set (B:=B) (i:=2) hbx2 (.int .i64 (j2:Int)))
    have HX2:=Ld hext2
    obtain ⟨a0',a1',a2',a3',a4',a5',a6'⟩:=hbx2.cells
    have b2:=hbx2.frozen 2
    have hsz:W.heap.size < (W2.setCell ⟨W.heap.size,2,none⟩ (.int .i64 (j2:Int))).heap.size:=(Array.getElem?_eq_some_iff.1 hbx3).1
    obtain ⟨g0,g1,g2,g3,g4,g5,g6⟩:=hbx3.cells
    obtain ⟨i0,hi,hz0,hz1,hz2⟩:=info_parts infoNode
    obtain ⟨la,lc,rfl⟩:=own_sliceN hst3.row
    have b3:=(bR (W2.setCell ⟨W.heap.size,2,none⟩ (.int .i64 (j2:Int))).heap.size (W2.setCell ⟨W.heap.size,2,none⟩ (.int .i64 (j2:Int)))).alloc (nR _) (.cells #[.int .u8 (q.toNat:Int),.int .i64 (j1:Int),.int .i64 (j2:Int),.int .i64 0,.int .i64 0,.string ⟨#[]⟩,.slice none 0 0] 94)
    have hst4:=hst3.below b3
    have k0:=(b3.cell (p:=⟨W.heap.size,0,none⟩) hsz).trans g0
    have k1:=(b3.cell (p:=⟨W.heap.size,1,none⟩) hsz).trans g1
    have k2:=(b3.cell (p:=⟨W.heap.size,2,none⟩) hsz).trans g2
    have k3:=(b3.cell (p:=⟨W.heap.size,3,none⟩) hsz).trans g3
    have k4:=(b3.cell (p:=⟨W.heap.size,4,none⟩) hsz).trans g4
    have k5:=(b3.cell (p:=⟨W.heap.size,5,none⟩) hsz).trans g5
    have k6:=(b3.cell (p:=⟨W.heap.size,6,none⟩) hsz).trans g6
    have cb3:=hst3.cell
    have cb4:=hst4.cell
    have cf3:=hst3.froz
    have cf4:=hst4.froz
    have hown:=hst3.row
    have hle1:=hst3.le
    have hnl:ns2.length<=100000:=by omega
    have hcb4:cb < ((W2.setCell ⟨W.heap.size,2,none⟩ (.int .i64 (j2:Int))).alloc (.cells #[.int .u8 (q.toNat:Int),.int .i64 (j1:Int),.int .i64 (j2:Int),.int .i64 0,.int .i64 0,.string ⟨#[]⟩,.slice none 0 0] 94)).drew.heap.size:=Nat.lt_of_lt_of_le hst4.lt hst4.le
    have hne:some cb≠(Value.slice la ns2.length lc).ownBlock:=fun e=>hst3.ne e.symm
    have HS3:=Ld hst3
    have HB4:Hid (Below (W2.setCell ⟨W.heap.size,2,none⟩ (.int .i64 (j2:Int))).heap.size (W2.setCell ⟨W.heap.size,2,none⟩ (.int .i64 (j2:Int))) ((W2.setCell ⟨W.heap.size,2,none⟩ (.int .i64 (j2:Int))).alloc (.cells #[.int .u8 (q.toNat:Int),.int .i64 (j1:Int),.int .i64 (j2:Int),.int .i64 0,.int .i64 0,.string ⟨#[]⟩,.slice none 0 0] 94)).drew):=b3.drew
    clear hsz2 hj2 hln2 hsl2 hm2 hlen2 ht2 hrep2 hkn2 hks2 hst2 hext2 hbx2 hbx3 f2 hst3 hst4 b3 a0 a1 a2 a3 a4 a5 a6
    subst he
    go_wp2_with fail
    rw [rounds_succ]
    go_wp2_with fail
    go_region_law (first
      | (refine step_append_lies _ (by rfl) _ _ _ (by rfl) (cb - 1) 94 i0 _ 7 80 Tryz.underlying91 hi hz0 hz1 hz2 rfl (by decide) (.slice la ns2.length lc) ns2.length _ (by rfl) ((hown.alloc _).drew)
          ⟨(W2.setCell ⟨W.heap.size,2,none⟩ (.int .i64 (j2:Int))).heap.size,0,none⟩ 1 1 [.int .u8 (q.toNat:Int),.int .i64 (j1:Int),.int .i64 (j2:Int),.int .i64 0,.int .i64 0,.string ⟨#[]⟩,.slice none 0 0] (by first | rfl | simp [Act.eval]) (by rfl) (World.news_of_block (cs:=#[.int .u8 (q.toNat:Int),.int .i64 (j1:Int),.int .i64 (j2:Int),.int .i64 0,.int .i64 0,.string ⟨#[]⟩,.slice none 0 0]) (t:=94) (fr:=(0,0)) (heap_alloc_new (W2.setCell ⟨W.heap.size,2,none⟩ (.int .i64 (j2:Int))) _)) (by simp [Value.oneCell'])
          (by decide) (by unfold maxLen;omega) (by omega) (by first | (simp;omega) | (have:=hle1;simp at this |-;omega)) (W2.heap.size+1) (by simp) ?_;intro g cap w6 hown6 hgrow6 hat6 hlt6
         have m0:w6.cell? ⟨cb,0,none⟩=some (.slice la ns2.length lc):=(World.cell?_of_block (a:=⟨cb,0,none⟩) (hgrow6.block cb hcb4 hne)).trans cb4
         have mf:w6.frozen? ⟨cb,0,none⟩=false:=(World.frozen?_of_block (a:=⟨cb,0,none⟩) (hgrow6.block cb hcb4 hne)).trans cf4))
    all_goals
      have P:=HS3.out.push (g:=g) (nd:=⟨q,j1,j2,0,0,[],.slice none 0 0⟩) HB4.out hgrow6 hown6 rfl (by rcases hat6 with h | h;exact .inl h;exact .inr (by rw [h];simp)) ⟨_,_,_,rfl⟩
      have PP:=Ld P
      clear P hown6 hgrow6 hat6
      go_wp2
      go_ret2
      have hk:=HK3.out.trans PP.out.2
      have hs3:=PP.out.2.strs HS3.out
      refine ⟨_,ns2 ++ [⟨q,j1,j2,0,0,[],.slice none 0 0⟩],PP.out.1,hk,hk.strs HH.out,HE3.out.trans (Ext.snoc _ _),.inl ⟨K t1 t2,r2,HT.out.join hp HC.out HT1.out (by rw [HM1.out];exact HT2.out),?_,?_,?_⟩⟩
      · rw [HT.out.size,lA,HLEN2.out,HLEN1.out,List.length_singleton]
        omega
      · refine HT.out.rep _ _ _ _ t1 t2 ⟨q,j1,j2,0,0,[],.slice none 0 0⟩ (by simp) rfl rfl (by have:=HJ2.out;simp;omega) (by have:=HJ1.out;have:=HJ2.out;have:=HLEN2.out;simp;omega) ?_ ?_
        · exact RepP.keep (HKS2.out.trans hs3) (HX2.out.trans (Ext.snoc _ _)) t1 j1 HREP1.out
        · exact RepP.keep (HKS3.out.trans hs3) (Ext.snoc _ _) t2 j2 HREP2.out
      · have e1:(K t1 t2).bytes.length=t1.bytes.length+t2.bytes.length+1:=by rw [HT.out.bytes];simp
        have h1:=HM1.out
        have h2:=HM2.out
        rw [show p+(K t1 t2).bytes.length=m2 by omega]
        simp)
end Go.Proofs.YtcaahdjhbmmcnaaGreatDoor
