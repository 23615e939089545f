/- TRead TReadW TReadL -/
import Derived.Test.YtgonemalnljabaaGreatDoorVTLeafC
set_option maxRecDepth 100000
set_option maxHeartbeats 16000000
set_option linter.unusedSimpArgs false
set_option linter.unusedVariables false
namespace Go.Proofs.YtgonemalnljabaaGreatDoor
open Go.ChangeShapes Go.WideShapes Go.ChangeAt Go.RowKit
def flatN (ns:List Nd):List Value:=ns.flatMap Nd.cells
def Rep (W:World) (B:Nat) (ns:List Nd):Nat→Tm→Prop
 | k,.var n=>∃ nd,ns[k]?=some nd∧LeafIs W B nd (.var n)
 | k,.sort l=>∃ nd,ns[k]?=some nd∧LeafIs W B nd (.sort l)
 | k,.const n ls=>∃ nd,ns[k]?=some nd∧LeafIs W B nd (.const n ls)
 | k,.app f a=>∃ nd,ns[k]?=some nd∧nd.kind=64∧Rep W B ns nd.a f∧Rep W B ns nd.b a
 | k,.lam d b=>∃ nd,ns[k]?=some nd∧nd.kind=108∧Rep W B ns nd.a d∧Rep W B ns nd.b b
 | k,.pi d b=>∃ nd,ns[k]?=some nd∧nd.kind=112∧Rep W B ns nd.a d∧Rep W B ns nd.b b
 | k,.lett t v b=>∃ nd,ns[k]?=some nd∧nd.kind=116∧Rep W B ns nd.a t∧Rep W B ns nd.b v∧Rep W B ns nd.c b
def KeepS (B:Nat) (W W':World):Prop:=∀ v n xs,W.ownsRow B 9 1 v n xs→W'.ownsRow B 9 1 v n xs
theorem KeepS.trans {B:Nat} {W W1 W2:World} (h:KeepS B W W1) (k:KeepS B W1 W2):KeepS B W W2:=fun v n xs hv=>k v n xs (h v n xs hv)
theorem KeepS.refl (B:Nat) (W:World):KeepS B W W:=fun _ _ _ h=>h
theorem LeafIs.keep {W W':World} {B:Nat} {nd:Nd} {t:Tm} (h:LeafIs W B nd t) (hk:KeepS B W W'):LeafIs W' B nd t:=by
 cases t with
 | const n ls=>exact ⟨h.1,h.2.1,hk _ _ _ h.2.2⟩
 | _=>exact h
def Ext (ns ns':List Nd):Prop:=∀ (i:Nat) nd,ns[i]?=some nd→ns'[i]?=some nd
theorem Ext.refl (ns:List Nd):Ext ns ns:=fun _ _ h=>h
theorem Ext.trans {a b c:List Nd} (h:Ext a b) (k:Ext b c):Ext a c:=fun i nd hi=>k i nd (h i nd hi)
theorem Ext.snoc (ns:List Nd) (nd:Nd):Ext ns (ns ++ [nd]):=fun i x h=>by
 have hi:i < ns.length:=by
  by_cases hi:i < ns.length
  ·exact hi
  ·rw [List.getElem?_eq_none (by omega)] at h;cases h
 rw [List.getElem?_append_left hi]
 exact h
theorem Rep.keep {W W':World} {B:Nat} {ns ns':List Nd} (hk:KeepS B W W') (he:Ext ns ns'):∀ (t:Tm) (k:Nat),Rep W B ns k t→Rep W' B ns' k t
 | .var _,_,⟨nd,h1,h2⟩=>⟨nd,he _ _ h1,h2⟩
 | .sort _,_,⟨nd,h1,h2⟩=>⟨nd,he _ _ h1,h2⟩
 | .const _ _,_,⟨nd,h1,h2⟩=>⟨nd,he _ _ h1,h2.keep hk⟩
 | .app f a,_,⟨nd,h1,h2,h3,h4⟩=>⟨nd,he _ _ h1,h2,Rep.keep hk he f _ h3,Rep.keep hk he a _ h4⟩
 | .lam f a,_,⟨nd,h1,h2,h3,h4⟩=>⟨nd,he _ _ h1,h2,Rep.keep hk he f _ h3,Rep.keep hk he a _ h4⟩
 | .pi f a,_,⟨nd,h1,h2,h3,h4⟩=>⟨nd,he _ _ h1,h2,Rep.keep hk he f _ h3,Rep.keep hk he a _ h4⟩
 | .lett f a b,_,⟨nd,h1,h2,h3,h4,h5⟩=>⟨nd,he _ _ h1,h2,Rep.keep hk he f _ h3,Rep.keep hk he a _ h4,Rep.keep hk he b _ h5⟩
structure NSt (B cb:Nat) (W:World) (vn:Value) (ns:List Nd):Prop where
 cell:W.cell? ⟨cb,0,none⟩=some vn
 froz:W.frozen? ⟨cb,0,none⟩=false
 row:W.ownsRow (cb - 1) 96 7 vn ns.length (flatN ns)
 ne:vn.ownBlock≠some cb
 sl:∀ nd∈ns,∃ a n c,nd.lv=.slice a n c
 lt:cb < B
 le:B≤W.heap.size
structure KeepN (B cb:Nat) (W:World) (vn:Value) (W':World) (vn':Value):Prop where
 os:W'.os=W.os
 tape:W'.tape=W.tape
 output:W'.output=W.output
 size:W.heap.size≤W'.heap.size
 block:∀ i,i < W.heap.size→i≠cb→vn.ownBlock≠some i→W'.heap[i]?=W.heap[i]?
 own:vn'.ownBlock=vn.ownBlock∨∀ g,vn'.ownBlock=some g→W.heap.size≤g
theorem KeepN.refl (B cb:Nat) (W:World) (vn:Value):KeepN B cb W vn W vn:=⟨rfl,rfl,rfl,Nat.le_refl _,fun _ _ _ _=>rfl,.inl rfl⟩
theorem KeepN.trans {B cb:Nat} {W W1 W2:World} {v v1 v2:Value} (h:KeepN B cb W v W1 v1) (k:KeepN B cb W1 v1 W2 v2):KeepN B cb W v W2 v2:=by
 refine ⟨k.os.trans h.os,k.tape.trans h.tape,k.output.trans h.output,Nat.le_trans h.size k.size,fun i hi hc hv=>?_,?_⟩
 ·refine (k.block i (Nat.lt_of_lt_of_le hi h.size) hc (fun e=>?_)).trans (h.block i hi hc hv)
  rcases h.own with h1 | h1
  ·exact hv (h1 ▸ e)
  ·have:=h1 i e;omega
 ·rcases k.own with k1 | k1
  ·rcases h.own with h1 | h1
   ·exact .inl (k1.trans h1)
   ·exact .inr fun g hg=>h1 g (k1 ▸ hg)
  ·exact .inr fun g hg=>Nat.le_trans h.size (k1 g hg)
theorem KeepN.below {B cb:Nat} {W W':World} {v:Value} (hb:Below W.heap.size W W'):KeepN B cb W v W' v := ⟨hb.os,hb.tape,hb.output,hb.size,fun i hi _ _=>hb.block i hi,.inl rfl⟩
theorem NSt.below {B cb:Nat} {W W':World} {v:Value} {ns:List Nd} (h:NSt B cb W v ns) (hb:Below W.heap.size W W'):NSt B cb W' v ns:=by
 have hl:cb < W.heap.size:=Nat.lt_of_lt_of_le h.lt h.le
 exact ⟨(hb.cell (p:=⟨cb,0,none⟩) hl).trans h.cell,(hb.frozen (p:=⟨cb,0,none⟩) hl).trans h.froz,own_below h.row hb,h.ne,h.sl,h.lt,Nat.le_trans h.le hb.size⟩
def Pos (ns:List Nd):Nat→Tm→Prop
  | _,.var _=>True
  | _,.sort _=>True
  | _,.const _ _=>True
  | k,.app f a=>∃ nd,ns[k]?=some nd∧nd.lv=.slice none 0 0∧nd.b+1=k∧nd.a+a.size+1=k∧Pos ns nd.a f∧Pos ns nd.b a
  | k,.lam f a=>∃ nd,ns[k]?=some nd∧nd.lv=.slice none 0 0∧nd.b+1=k∧nd.a+a.size+1=k∧Pos ns nd.a f∧Pos ns nd.b a
  | k,.pi f a=>∃ nd,ns[k]?=some nd∧nd.lv=.slice none 0 0∧nd.b+1=k∧nd.a+a.size+1=k∧Pos ns nd.a f∧Pos ns nd.b a
  | k,.lett f a b=>∃ nd,ns[k]?=some nd∧nd.lv=.slice none 0 0∧nd.c+1=k∧nd.b+b.size+1=k∧nd.a+a.size+b.size+1=k∧Pos ns nd.a f∧Pos ns nd.b a∧Pos ns nd.c b
theorem Pos.keep {ns ns':List Nd} (he:Ext ns ns'):∀ (t:Tm) (k:Nat),Pos ns k t→Pos ns' k t
  | .var _,_,_=>trivial
  | .sort _,_,_=>trivial
  | .const _ _,_,_=>trivial
  | .app f a,_,⟨nd,h1,h0,h2,h3,h4,h5⟩=>⟨nd,he _ _ h1,h0,h2,h3,Pos.keep he f _ h4,Pos.keep he a _ h5⟩
  | .lam f a,_,⟨nd,h1,h0,h2,h3,h4,h5⟩=>⟨nd,he _ _ h1,h0,h2,h3,Pos.keep he f _ h4,Pos.keep he a _ h5⟩
  | .pi f a,_,⟨nd,h1,h0,h2,h3,h4,h5⟩=>⟨nd,he _ _ h1,h0,h2,h3,Pos.keep he f _ h4,Pos.keep he a _ h5⟩
  | .lett f a b,_,⟨nd,h1,h0,h2,h3,h4,h5,h6,h7⟩=>⟨nd,he _ _ h1,h0,h2,h3,h4,Pos.keep he f _ h5,Pos.keep he a _ h6,Pos.keep he b _ h7⟩
def RepP (W:World) (B:Nat) (ns:List Nd) (k:Nat) (t:Tm):Prop:=Rep W B ns k t∧Pos ns k t
theorem RepP.keep {W W':World} {B:Nat} {ns ns':List Nd} (hk:KeepS B W W') (he:Ext ns ns') (t:Tm) (k:Nat) (h:RepP W B ns k t):RepP W' B ns' k t :=
  ⟨Rep.keep hk he t k h.1,Pos.keep he t k h.2⟩
structure Two (c:UInt8) (K:Tm→Tm→Tm):Prop where
 bytes:∀ f a,(K f a).bytes=c :: (f.bytes ++ a.bytes)
 ok:∀ f a,(K f a).Ok↔f.Ok∧a.Ok
 size:∀ f a,(K f a).size=f.size+a.size+1
 inv:∀ t,t.kind=c→∃ f a,t=K f a
 rep:∀ (W:World) (B:Nat) (ns:List Nd) (k:Nat) (f a:Tm) (nd:Nd),ns[k]?=some nd→nd.kind=c→nd.lv=.slice none 0 0→nd.b+1=k→nd.a+a.size+1=k→RepP W B ns nd.a f→RepP W B ns nd.b a→RepP W B ns k (K f a)
theorem drop_part {l r:List UInt8} {p:Nat} {x:List UInt8} (h:l.drop p=x ++ r):l.drop (p+x.length)=r:=by
 rw [← List.drop_drop,h,List.drop_left]
theorem Two.split {c:UInt8} {K:Tm→Tm→Tm} (hT:Two c K) {l r:List UInt8} {p:Nat} {f a:Tm} (h:Tat (l.drop p) (K f a) r) :
  Tat (l.drop (p+1)) f (a.bytes ++ r)∧Tat (l.drop (p+1+f.bytes.length)) a r:=by
 have h1:=(hT.ok f a).1 h.1
 have hk:(K f a).bytes=(K f a).kind :: (f.bytes ++ a.bytes):=by
  obtain ⟨x,hx⟩:=(K f a).bytes_head
  have:=hT.bytes f a
  rw [hx] at this
  injection this with e1 e2
  rw [hx,e2]
 have h2:l.drop (p+1)=f.bytes ++ (a.bytes ++ r):=by
  rw [tat_tail h hk,List.append_assoc]
 exact ⟨⟨h1.1,h2⟩,h1.2,drop_part h2⟩
def NBox (nb:Nat) (W:World) (c:Int) (a b d:Nat):Prop :=
 W.heap[nb]?=some (.cells #[.int .u8 c,.int .i64 (a:Int),.int .i64 (b:Int),.int .i64 (d:Int),.int .i64 0,.string ⟨#[]⟩,.slice none 0 0] 96 (0,0))
theorem KeepS.set {B nb i:Nat} {W:World} {c:Int} {a b d:Nat} (h:NBox nb W c a b d) (u:Value):KeepS B W (W.setCell ⟨nb,i,none⟩ u):=fun v n xs hv=>by
 refine ⟨hv.1,?_⟩
 rcases hv.2 with hz | ⟨g,cap,cur,e,hb,hg,rest⟩
 ·exact .inl hz
 ·refine .inr ⟨g,cap,cur,e,hb,?_,rest⟩
  rw [heap_setCell_other _ _ _ _ (fun e=>?_)]
  ·exact hg
  ·have e:g=nb:=e
   subst e
   unfold NBox at h
   rw [hg] at h
   simp only [Option.some.injEq,Obj.cells.injEq] at h
   exact absurd h.2.1 (by decide)
theorem NBox.cells {nb:Nat} {W:World} {c:Int} {a b d:Nat} (h:NBox nb W c a b d):W.cell? ⟨nb,0,none⟩=some (.int .u8 c)∧W.cell? ⟨nb,1,none⟩=some (.int .i64 (a:Int))∧W.cell? ⟨nb,2,none⟩=some (.int .i64 (b:Int))∧W.cell? ⟨nb,3,none⟩=some (.int .i64 (d:Int))∧W.cell? ⟨nb,4,none⟩=some (.int .i64 0)∧W.cell? ⟨nb,5,none⟩=some (.string ⟨#[]⟩)∧W.cell? ⟨nb,6,none⟩=some (.slice none 0 0) := ⟨cell_of_row _ _ _ _ _ _ h,cell_of_row _ _ _ _ _ _ h,cell_of_row _ _ _ _ _ _ h,cell_of_row _ _ _ _ _ _ h,cell_of_row _ _ _ _ _ _ h,cell_of_row _ _ _ _ _ _ h,cell_of_row _ _ _ _ _ _ h⟩
theorem NBox.frozen {nb:Nat} {W:World} {c:Int} {a b d:Nat} (h:NBox nb W c a b d) (i:Nat):W.frozen? ⟨nb,i,none⟩=false:=frozen_of_row _ _ _ _ _ h
end Go.Proofs.YtgonemalnljabaaGreatDoor
