/- ListsP GCt GDecl LbP RowsL GOrd LbC LOrd EqS Lists AppR -/
import Derived.SliceStrings
import Derived.Laws.Cover1
import Derived.Laws.ResultCell
import Derived.Deep.RegionHeld3
import Derived.Sort.Walk0
import Derived.Laws.AppendOwnNone
import Derived.Test.YtgppcegcpiaocaaGreatDoorNBase
set_option maxRecDepth 100000
set_option maxHeartbeats 16000000
set_option linter.unusedSimpArgs false
set_option linter.unusedVariables false
namespace Go.Proofs.YtgppcegcpiaocaaGreatDoor
open Go.ChangeShapes Go.WideShapes Go.ChangeAt Go.RowKit
def Came (w:World) (v:Value) (l:List (List UInt8)):Prop :=
 ∃ (a0:Option Addr) (cap b off:Nat),v=.slice a0 l.length cap/\(0<l.length->a0=some ⟨b,off,none⟩/\b<w.heap.size)/\(∀ j (h:j<l.length),w.cell? ⟨b,off+j,none⟩=some (sv l[j]))/\l.length<=maxLen/\∀ x∈l,x.length<=maxLen
theorem Came.below{w w':World}{v:Value}{l:List (List UInt8)}(h:Came w v l)(hb:Below w.heap.size w w'):Came w' v l:=by
 obtain⟨a0,cap,b,off,h1,h2,h3,h4,h5⟩:=h;refine⟨a0,cap,b,off,h1,fun h0=>⟨(h2 h0).1,Nat.lt_of_lt_of_le (h2 h0).2 hb.size⟩,fun j hj=>?_,h4,h5⟩;rw[hb.cell (p:=⟨b,off+j,none⟩) (h2 (by omega)).2];exact h3 j hj
theorem yB(x:List UInt8):(⟨x.toArray⟩:ByteArray).size=x.length:=by simp[ByteArray.size]
theorem sH:(Tryz.prog.info? 9).map (fun i=>(i.zero,i.size,i.bytes))=some (some (.string ⟨#[]⟩),1,16):=by kernel_rfl
def nZ (r:List (List UInt8)) (w:World) (e:Ending) (w':World):Prop :=
 ∃ v,e=.returned v/\w'.ownsRow w.heap.size 9 1 v r.length (r.map sv)/\Below w.heap.size w w'
abbrev Ct:=List UInt8 × List UInt8
def ccells (x:Ct):List Value:=[sv x.1,sv x.2]
def xM (l:List Ct):List Value:=l.flatMap ccells
theorem yF2(x:Ct)(l:List Ct):xM (x::l)=sv x.1::sv x.2::xM l:=rfl
theorem sZ{l:List Ct}:∀ {j:Nat} (h:j<l.length),(xM l)[j*2]?=some (sv l[j].1)/\(xM l)[j*2+1]?=some (sv l[j].2):=by
 induction l with
|nil=>intro j h;simp at h
|cons x l ih =>
  intro j h;cases j with
 |zero=>exact⟨rfl,rfl⟩
 |succ j =>
   have:=ih (j:=j) (by simpa using h);rw[yF2,show (j+1)*2=j*2+1+1 by omega];simpa using this
def xE8 (w:World) (v:Value) (l:List Ct):Prop :=
 ∃ (a0:Option Addr) (cap b off:Nat),v=.slice a0 l.length cap/\(0<l.length->a0=some ⟨b,off,none⟩/\b<w.heap.size)/\(∀ j (h:j<l.length),w.cell? ⟨b,off+j*2,none⟩=some (sv l[j].1)/\w.cell? ⟨b,off+j*2+1,none⟩=some (sv l[j].2))/\l.length<=maxLen/\∀ x∈l,x.1.length<=maxLen/\x.2.length<=maxLen
theorem xE8.below{w w':World}{v:Value}{l:List Ct}(h:xE8 w v l)(hb:Below w.heap.size w w'):xE8 w' v l:=by
 obtain⟨a0,cap,b,off,h1,h2,h3,h4,h5⟩:=h;refine⟨a0,cap,b,off,h1,fun h0=>⟨(h2 h0).1,Nat.lt_of_lt_of_le (h2 h0).2 hb.size⟩,fun j hj=>?_,h4,h5⟩;have hlt:=(h2 (by omega)).2;rw[hb.cell (p:=⟨b,off+j*2,none⟩) hlt,hb.cell (p:=⟨b,off+j*2+1,none⟩) hlt];exact h3 j hj
def totC (l:List Ct):Nat:=(l.map fun x=>x.1.length+x.2.length).sum
theorem yU6{l:List Ct}{x:Ct}(h:x∈l):x.1.length+x.2.length<=totC l:=by
 induction l with
|nil=>simp at h
|cons a r ih =>
  simp only[totC,List.map_cons,List.sum_cons];rcases List.mem_cons.1 h with rfl|h
  ·omega
  ·have:=ih h;simp only[totC] at this;omega
structure Dc where
 kind:Int
 name:List UInt8
 params:Int
 flags:Int
 type:List UInt8
 value:List UInt8
 ctors:List Ct
def Dc.val (d:Dc) (u:Value):Value:=.agg #[.int .i64 d.kind,.string ⟨d.name.toArray⟩,.int .i64 d.params,.int .i64 d.flags,.string ⟨d.type.toArray⟩,.string ⟨d.value.toArray⟩,u]
theorem gG(kd:Int)(nm:List UInt8)(ps fl:Int)(ty vl:List UInt8)(cs:List Ct)(u:Value):Dc.val ⟨kd,nm,ps,fl,ty,vl,cs⟩ u=.agg #[.int .i64 kd,.string ⟨nm.toArray⟩,.int .i64 ps,.int .i64 fl,.string ⟨ty.toArray⟩,.string ⟨vl.toArray⟩,u]:=rfl
structure Dc.Fits (d:Dc):Prop where
 name:d.name.length<=maxLen
 type:d.type.length<=maxLen
 value:d.value.length<=maxLen
def Dc.size (d:Dc):Nat:=d.name.length+d.type.length+d.value.length+d.ctors.length+totC d.ctors
theorem zE(w:World)(o:Obj):Below w.heap.size w (w.alloc o):=(bR _ _).alloc (nR _) _
theorem yG{W:World}{b b' z n:Nat}{e:TypeId}{v:Value}{xs:List Value}(h:W.ownsRow b e z v n xs)(hb:b'<=b):W.ownsRow b' e z v n xs:=by
 refine⟨h.1,?_⟩;rcases h.2 with h1|⟨g,cap,cur,h1,h2,h3⟩
 ·exact .inl h1
 ·exact .inr ⟨g,cap,cur,h1,Nat.le_trans hb h2,h3⟩
def bY (d:Dc) (w:World) (e:Ending) (w':World):Prop :=
 ∃ u,e=.returned (d.val u)/\w'.ownsRow w.heap.size 75 2 u d.ctors.length (xM d.ctors)/\Below w.heap.size w w'
theorem zK{W:World}{b z n:Nat}{e:TypeId}{v:Value}{xs:List Value}(h:W.ownsRow b e z v n xs):∃ a c,v=.slice a n c:=by
 rcases h.2 with ⟨rfl,rfl⟩|⟨g,cap,cur,rfl,_⟩
 ·exact⟨_,_,rfl⟩
 ·exact⟨_,_,rfl⟩
abbrev Lbl:=Int × List UInt8
def oL (x:Lbl):List Value:=[.int .i64 x.1,sv x.2]
def flat (l:List Lbl):List Value:=l.flatMap oL
theorem qD:flat []=[]:=rfl
theorem uP(x:Lbl)(l:List Lbl):flat (x::l)=.int .i64 x.1::sv x.2::flat l:=rfl
theorem rQ(a b:List Lbl):flat (a++b)=flat a++flat b:=by simp[flat]
theorem oA(l:List Lbl):(flat l).length=l.length*2:=by
 induction l with
|nil=>rfl
|cons x l ih=>rw[uP];simp only[lC,ih];omega
theorem qO{l:List Lbl}:∀ {j:Nat} (h:j<l.length),(flat l)[j*2]?=some (.int .i64 l[j].1)/\(flat l)[j*2+1]?=some (sv l[j].2):=by
 induction l with
|nil=>intro j h;simp at h
|cons x l ih =>
  intro j h;cases j with
 |zero=>exact⟨rfl,rfl⟩
 |succ j =>
   have:=ih (j:=j) (by simpa using h);rw[uP,show (j+1)*2=j*2+1+1 by omega];simpa using this
theorem yO5:(Tryz.prog.info? 125).map (fun i=>(i.zero,i.size,i.bytes))=some (some (.agg #[.int .i64 0,.string ⟨#[]⟩]),2,24):=by kernel_rfl
def xE7 (w:World) (v:Value) (l:List Lbl):Prop :=
 ∃ (a0:Option Addr) (cap b off:Nat),v=.slice a0 l.length cap/\(0<l.length->a0=some ⟨b,off,none⟩/\b<w.heap.size)/\(∀ j (h:j<l.length),w.cell? ⟨b,off+j*2,none⟩=some (.int .i64 l[j].1)/\w.cell? ⟨b,off+j*2+1,none⟩=some (sv l[j].2))/\l.length<=maxLen/\∀ x∈l,x.2.length<=maxLen
theorem xE7.below{w w':World}{v:Value}{l:List Lbl}(h:xE7 w v l)(hb:Below w.heap.size w w'):xE7 w' v l:=by
 obtain⟨a0,cap,b,off,h1,h2,h3,h4,h5⟩:=h;refine⟨a0,cap,b,off,h1,fun h0=>⟨(h2 h0).1,Nat.lt_of_lt_of_le (h2 h0).2 hb.size⟩,fun j hj=>?_,h4,h5⟩;have hlt:=(h2 (by omega)).2;rw[hb.cell (p:=⟨b,off+j*2,none⟩) hlt,hb.cell (p:=⟨b,off+j*2+1,none⟩) hlt];exact h3 j hj
def totLb (l:List Lbl):Nat:=(l.map fun x=>x.2.length).sum
def yU0 (r:List Lbl) (w:World) (e:Ending) (w':World):Prop :=
 ∃ v,e=.returned v/\w'.ownsRow w.heap.size 125 2 v r.length (flat r)/\Below w.heap.size w w'
end Go.Proofs.YtgppcegcpiaocaaGreatDoor
namespace Go.Proofs.YtgppcegcpiaocaaGreatDoor.L
structure SOrd (α:Type) where
 lt:α->α->Bool
 irr:∀ x,lt x x=false
 tr:∀ x y z,lt x y=true->lt y z=true->lt x z=true
 tot:∀ x y,lt x y=false->lt y x=false->x=y
section
variable {α:Type} (O:SOrd α)
def SOrd.ls (x y:α):Prop:=O.lt x y=true
def SOrd.le (x y:α):Prop:=O.lt y x=false
theorem SOrd.le_refl(x:α):O.le x x:=O.irr x
theorem SOrd.lt_irrefl(x:α):¬ O.ls x x:=by intro h;have:=O.irr x;unfold SOrd.ls at h;rw[this] at h;cases h
theorem SOrd.lt_trans{x y z:α}(h1:O.ls x y)(h2:O.ls y z):O.ls x z:=O.tr x y z h1 h2
theorem SOrd.le_of_lt{x y:α}(h:O.ls x y):O.le x y:=by
 cases e:O.lt y x with
|false=>exact e
|true=>exact absurd (O.tr x y x h e) (O.lt_irrefl x)
theorem SOrd.le_antisymm{x y:α}(h1:O.le x y)(h2:O.le y x):x=y:=O.tot x y h2 h1
theorem SOrd.le_total(x y:α):O.le x y\/O.le y x:=by
 cases e:O.lt y x with
|false=>exact .inl e
|true=>exact .inr (O.le_of_lt e)
theorem SOrd.lt_of_le_ne{x y:α}(h:O.le x y)(hne:x≠y):O.ls x y:=by
 cases e:O.lt x y with
|true=>exact e
|false=>exact absurd (O.tot x y e h) hne
theorem SOrd.le_trans{x y z:α}(h1:O.le x y)(h2:O.le y z):O.le x z:=by
 cases e:O.lt z x with
|false=>exact e
|true =>
  cases e2:O.lt y z with
 |true=>have:=O.tr y z x e2 e;unfold SOrd.le at h1;rw[this] at h1;cases h1
 |false =>
   have:=O.tot y z e2 h2;subst this;unfold SOrd.le at h1;rw[e] at h1;cases h1
def Asc (l:List α):Prop:=l.Pairwise O.ls
theorem mZ{out:List α}{s:α}(h:Asc O out)(hs:out.getLast?=some s):∀ o∈out,O.le o s:=by
 intro o ho;obtain⟨r,rfl⟩:∃ r,out=r++[s]:=List.getLast?_eq_some_iff.1 hs;rcases List.mem_append.1 ho with h1|h1
 ·exact O.le_of_lt ((List.pairwise_append.1 h).2.2 o h1 s (by simp))
 ·rw[List.mem_singleton.1 h1];exact O.le_refl _
theorem oF{x:α}{l:List α}(h:Asc O (x::l)):Asc O l/\∀ y∈l,O.ls x y:=⟨(List.pairwise_cons.1 h).2,(List.pairwise_cons.1 h).1⟩
end
section
variable {α:Type} [DecidableEq α] (O:SOrd α)
def psh (out:List α) (s:α):List α:=if out.getLast?=some s then out else out++[s]
def mrg (a b out:List α):List α :=
 match a,b with
|[],[]=>out
|x::a',[]=>mrg a' [] (psh out x)
|[],y::b'=>mrg [] b' (psh out y)
|x::a',y::b'=>if O.lt y x=false then mrg a' (y::b') (psh out x) else mrg (x::a') b' (psh out y)
termination_by a.length+b.length
def srt (l:List α):List α :=
 if h:l.length<2 then l else mrg O (srt (l.take (l.length / 2))) (srt (l.drop (l.length / 2))) []
termination_by l.length
decreasing_by
 ·simp;omega
 ·simp;omega
theorem sK{l:List α}(h:l.length<2):srt O l=l:=by rw[srt,dif_pos h]
theorem oS{l:List α}(h:¬ l.length<2):srt O l=mrg O (srt O (l.take (l.length / 2))) (srt O (l.drop (l.length / 2))) []:=by rw[srt,dif_neg h]
theorem pM(out:List α)(s:α):(psh out s).length<=out.length+1:=by
 unfold psh;split<;>simp
theorem lS{a b:List α}{i k:Nat}(out:List α)(hi:i<a.length)(h:∀ hk:k<b.length,O.lt b[k] a[i]=false):mrg O (a.drop i) (b.drop k) out=mrg O (a.drop (i+1)) (b.drop k) (psh out a[i]):=by
 rw[List.drop_eq_getElem_cons hi];by_cases hk:k<b.length
 ·rw[List.drop_eq_getElem_cons hk,mrg,iP (h hk)]
 ·have e:b.drop k=[]:=List.drop_eq_nil_of_le (by omega);rw[e,mrg]
theorem oW{a b:List α}{i k:Nat}(out:List α)(hk:k<b.length)(h:∀ hi:i<a.length,¬ O.lt b[k] a[i]=false):mrg O (a.drop i) (b.drop k) out=mrg O (a.drop i) (b.drop (k+1)) (psh out b[k]):=by
 rw[List.drop_eq_getElem_cons hk];by_cases hi:i<a.length
 ·rw[List.drop_eq_getElem_cons hi,mrg,iN (h hi)]
 ·rw[List.drop_eq_nil_of_le (by omega),mrg]
theorem aV{a b:List α}{i k:Nat}(out:List α)(hi:¬ i<a.length)(hk:¬ k<b.length):mrg O (a.drop i) (b.drop k) out=out:=by
 rw[List.drop_eq_nil_of_le (by omega),List.drop_eq_nil_of_le (by omega),mrg]
theorem vY{out:List α}{s z:α}:z∈psh out s↔z∈out\/z=s:=by
 unfold psh;split
 ·rename_i h;constructor
  ·exact .inl
  ·rintro (h2|rfl)
   ·exact h2
   ·exact List.mem_of_getLast? h
 ·simp
theorem pN{out:List α}{s:α}(h:Asc O out)(hle:∀ o∈out,O.le o s):Asc O (psh out s):=by
 unfold psh;split
 ·exact h
 ·rename_i hne;refine List.pairwise_append.2 ⟨h,by simp,fun o ho x hx=>?_⟩;rw[List.mem_singleton.1 hx];refine O.lt_of_le_ne (hle o ho) ?_;rintro rfl;cases hl:out.getLast? with
 |none=>rw[List.getLast?_eq_none_iff.1 hl] at ho;simp at ho
 |some t =>
   have h1:=mZ O h hl o ho;have h2:=hle t (List.mem_of_getLast? hl);exact hne (by rw[hl,O.le_antisymm h2 h1])
theorem aU:∀ (n:Nat) (a b out:List α),a.length+b.length<=n->Asc O a->Asc O b->Asc O out->(∀ o∈out,(∀ x∈a,O.le o x)/\∀ y∈b,O.le o y) ->
  Asc O (mrg O a b out)/\∀ z,z∈mrg O a b out↔z∈out\/z∈a\/z∈b:=by
 intro n
 induction n with
|zero =>
  intro a b out hn _ _ ho _;have h1:a=[]:=List.length_eq_zero_iff.1 (by omega);have h2:b=[]:=List.length_eq_zero_iff.1 (by omega);subst h1 h2;rw[mrg];exact⟨ho,by simp⟩
|succ n ih =>
  intro a b out hn ha hb ho hle;cases a with
 |nil =>
   cases b with
  |nil=>rw[mrg];exact⟨ho,by simp⟩
  |cons y b =>
    rw[mrg];obtain⟨hb1,hb2⟩:=oF O hb
    obtain⟨h1,h2⟩:=ih [] b (psh out y) (by simp at hn |-;omega) ha hb1 (pN O ho fun o h=>(hle o h).2 y (by simp)) (fun o h=>by
     refine⟨by simp,fun z hz=>?_⟩;rcases vY.1 h with h|rfl
     ·exact(hle o h).2 z (by simp[hz])
     ·exact O.le_of_lt (hb2 z hz))
    refine⟨h1,fun z=>?_⟩;rw[h2,vY];simp[or_assoc]
 |cons x a =>
   obtain⟨ha1,ha2⟩:=oF O ha;cases b with
  |nil =>
    rw[mrg]
    obtain⟨h1,h2⟩:=ih a [] (psh out x) (by simp at hn |-;omega) ha1 hb (pN O ho fun o h=>(hle o h).1 x (by simp)) (fun o h=>by
     refine⟨fun z hz=>?_,by simp⟩;rcases vY.1 h with h|rfl
     ·exact(hle o h).1 z (by simp[hz])
     ·exact O.le_of_lt (ha2 z hz))
    refine⟨h1,fun z=>?_⟩;rw[h2,vY];simp[or_assoc]
  |cons y b =>
    obtain⟨hb1,hb2⟩:=oF O hb;rw[mrg];split
    ·rename_i hxy
     obtain⟨h1,h2⟩:=ih a (y::b) (psh out x) (by simp at hn |-;omega) ha1 hb (pN O ho fun o h=>(hle o h).1 x (by simp)) (fun o h=>by
      rcases vY.1 h with h|rfl
      ·exact⟨fun z hz=>(hle o h).1 z (by simp[hz]),(hle o h).2⟩
      ·refine⟨fun z hz=>O.le_of_lt (ha2 z hz),fun z hz=>?_⟩;rcases List.mem_cons.1 hz with rfl|hz
       ·exact hxy
       ·exact O.le_trans hxy (O.le_of_lt (hb2 z hz)))
     refine⟨h1,fun z=>?_⟩;rw[h2,vY];simp[or_assoc]
    ·rename_i hxy;have hyx:O.le y x:=(O.le_total x y).resolve_left hxy
     obtain⟨h1,h2⟩:=ih (x::a) b (psh out y) (by simp at hn |-;omega) ha hb1 (pN O ho fun o h=>(hle o h).2 y (by simp)) (fun o h=>by
      rcases vY.1 h with h|rfl
      ·exact⟨(hle o h).1,fun z hz=>(hle o h).2 z (by simp[hz])⟩
      ·refine⟨fun z hz=>?_,fun z hz=>O.le_of_lt (hb2 z hz)⟩;rcases List.mem_cons.1 hz with rfl|hz
       ·exact hyx
       ·exact O.le_trans hyx (O.le_of_lt (ha2 z hz)))
     refine⟨h1,fun z=>?_⟩;rw[h2,vY];simp only[List.mem_cons];constructor
     ·rintro ((h|h)|h|h)
      ·exact .inl h
      ·exact .inr (.inr (.inl h))
      ·exact .inr (.inl h)
      ·exact .inr (.inr (.inr h))
     ·rintro (h|h|h|h)
      ·exact .inl (.inl h)
      ·exact .inr (.inl h)
      ·exact .inl (.inr h)
      ·exact .inr (.inr h)
theorem zQ0:∀ (n:Nat) (a b out:List α),a.length+b.length<=n->(mrg O a b out).length<=out.length+a.length+b.length:=by
 intro n
 induction n with
|zero =>
  intro a b out hn;have h1:a=[]:=List.length_eq_zero_iff.1 (by omega);have h2:b=[]:=List.length_eq_zero_iff.1 (by omega);subst h1 h2;rw[mrg];simp
|succ n ih =>
  intro a b out hn;cases a with
 |nil =>
   cases b with
  |nil=>rw[mrg];simp
  |cons y b =>
    rw[mrg];have:=ih [] b (psh out y) (by simp at hn |-;omega);have:=pM out y;simp at *;omega
 |cons x a =>
   cases b with
  |nil =>
    rw[mrg];have:=ih a [] (psh out x) (by simp at hn |-;omega);have:=pM out x;simp at *;omega
  |cons y b =>
    rw[mrg];split
    ·have:=ih a (y::b) (psh out x) (by simp at hn |-;omega);have:=pM out x;simp at *;omega
    ·have:=ih (x::a) b (psh out y) (by simp at hn |-;omega);have:=pM out y;simp at *;omega
theorem srt_spec:∀ (n:Nat) (l:List α),l.length<=n->Asc O (srt O l)/\(∀ z,z∈srt O l↔z∈l)/\(srt O l).length<=l.length:=by
 intro n
 induction n using Nat.strongRecOn with
|ind n ih =>
  intro l hl;by_cases h:l.length<2
  ·rw[sK O h];refine⟨?_,fun z=>Iff.rfl,nR _⟩
   match l,h with
  |[],_=>exact List.Pairwise.nil
  |[x],_=>exact List.pairwise_singleton _ _
  ·have e1:(l.take (l.length / 2)).length=l.length / 2:=(by simp;omega);have e2:(l.drop (l.length / 2)).length=l.length - l.length / 2:=(by simp);obtain⟨a1,a2,a3⟩:=ih (l.length / 2) (by omega) (l.take (l.length / 2)) (by omega);obtain⟨b1,b2,b3⟩:=ih (l.length - l.length / 2) (by omega) (l.drop (l.length / 2)) (by omega);rw[oS O h];obtain⟨m1,m2⟩:=aU O _ _ _ [] (nR _) a1 b1 List.Pairwise.nil (by simp);refine⟨m1,fun z=>?_,?_⟩
   ·rw[m2,a2,b2];simp only[List.not_mem_nil,false_or];rw[← List.mem_append,List.take_append_drop]
   ·have:=zQ0 O _ (srt O (l.take (l.length / 2))) (srt O (l.drop (l.length / 2))) [] (nR _);simp only[List.length_nil] at this;omega
end
end Go.Proofs.YtgppcegcpiaocaaGreatDoor.L
namespace Go.Proofs.YtgppcegcpiaocaaGreatDoor
open Go.ChangeShapes Go.WideShapes Go.ChangeAt Go.RowKit
def zI1 (k1:Int) (n1:List UInt8) (k2:Int) (n2:List UInt8):Bool:=decide (k1<k2) || (k1==k2&&decide (n1<n2))
theorem yV5(k1 k2:Int)(n1 n2:List UInt8)(w:World) :
  Rt 72 #[.agg #[.int .i64 k1,.string ⟨n1.toArray⟩],.agg #[.int .i64 k2,.string ⟨n2.toArray⟩]] w (.bool (zI1 k1 n1 k2 n2)):=by
 have hB:∀ o1 o2,Below w.heap.size w ((w.alloc o1).alloc o2):=fun o1 o2=>((bR _ _).alloc (nR _) o1).alloc (by simp) o2;have hb:=Ld (bytesLess_eq n1 n2);unfold zI1;by_cases h1:k1<k2
 ·have d1:decide (k1<k2)=true:=dT h1;go_enter Tryz.func72,Tryz.ntmps72;go_wp2;go_ret;exact⟨by simp[d1],hB _ _⟩
 ·have d1:decide (k1<k2)=false:=dF h1;by_cases h2:k1=k2
  ·have d2:(k1==k2)=true:=(by rw[beq_iff_eq];exact h2);clear h2;go_enter Tryz.func72,Tryz.ntmps72;go_wp2;go_ret;refine⟨?_,hB _ _⟩;rw[hb.out];rfl
  ·have d2:(k1==k2)=false:=(by rw[bF];exact h2);go_enter Tryz.func72,Tryz.ntmps72;go_wp2;go_ret;exact⟨rfl,hB _ _⟩
end Go.Proofs.YtgppcegcpiaocaaGreatDoor
namespace Go.Proofs.YtgppcegcpiaocaaGreatDoor.L
theorem eH(x y:Int × List UInt8):zI1 x.1 x.2 y.1 y.2=true↔x.1<y.1\/(x.1=y.1/\x.2<y.2):=by simp[zI1]
def ordL:SOrd (Int × List UInt8) where
 lt x y:=zI1 x.1 x.2 y.1 y.2
 irr x:=by
  rw[Bool.eq_false_iff];intro h;rcases (eH x x).1 h with h|⟨_,h⟩
  ·omega
  ·exact List.lt_irrefl _ h
 tr x y z h1 h2:=by
  rw[eH] at h1 h2 |-;rcases h1 with h1|⟨h1,h1'⟩<;>rcases h2 with h2|⟨h2,h2'⟩
  ·exact .inl (by omega)
  ·exact .inl (by omega)
  ·exact .inl (by omega)
  ·exact .inr ⟨by omega,List.lt_trans h1' h2'⟩
 tot x y h1 h2:=by
  rw[Bool.eq_false_iff,ne_eq,eH] at h1 h2;have e1:x.1=y.1:=by
   have a1:¬ x.1<y.1:=fun h=>h1 (.inl h);have a2:¬ y.1<x.1:=fun h=>h2 (.inl h);omega
  have e2:x.2=y.2:=by
   have a1:¬ x.2<y.2:=fun h=>h1 (.inr ⟨e1,h⟩);have a2:¬ y.2<x.2:=fun h=>h2 (.inr ⟨e1.symm,h⟩);exact List.le_antisymm (List.not_lt.1 a2) (List.not_lt.1 a1)
  exact Prod.ext e1 e2
end Go.Proofs.YtgppcegcpiaocaaGreatDoor.L
namespace Go.Proofs.YtgppcegcpiaocaaGreatDoor
open Go.ChangeShapes Go.WideShapes Go.ChangeAt Go.RowKit
theorem nN{W:World}{ops:Array Oper}{rest:List Oper}{o:Oper}{a:Act}{Q:Exit->Act->World->Prop}(hgd:Region.wanted o (yielded ops a.tmps)=true)(s x:Operand)
  (ho:o.op=.call { callee:=.builtin .append,args:=#[s,x],argTypes:=#[26,26] })
  (hs:a.eval s=.slice (some ⟨W.heap.size,0,none⟩) 0 0) (bx:Nat) (vx:Value) (l:List (List UInt8)) (hx:a.eval x=vx) (hrow:W.ownsRow bx 9 1 vx l.length (l.map sv))
  (h63:l.length<=1000000)
  (h:∀ v' w',w'.ownsRow W.heap.size 9 1 v' l.length (l.map sv)->Below W.heap.size W w'->wpList Tryz.prog ops Q rest (a.put o.dst v') w'):wpList Tryz.prog ops Q (o::rest) a (W.alloc (.cells #[] 9)):=by
 have b0:=(bR W.heap.size W).alloc (nR _) (.cells #[] 9);obtain⟨i0,hi,hz0,hz1,hz2⟩:=info_parts sH;have r0:=World.ownsRow_lit (base:=W.heap.size) (e:=9) (size:=1) W #[] 0 (nR _) (by decide) (by simp);refine wpList_step fun K hK=>?_;rw[iP hgd];rcases hrow.2 with ⟨rfl,h0⟩|⟨g,cap,cur,rfl,_⟩
 ·obtain rfl:l=[]:=List.length_eq_zero_iff.1 h0;have hrun:=run_append_owned_none (P:=Tryz.prog) (w:=W.alloc (.cells #[] 9)) W.heap.size 26 o.type 9 i0 1 Tryz.underlying26 hi _ 0 [] r0;unfold Oper.wp;simp[execOp,ho,resolve,invoke,builtin,hs,hx,hrun,Result.andThen];exact hK _ _ (h _ _ r0 b0)
 refine wp_append_own _ s x 26 ho W.heap.size 9 i0 _ 1 16 Tryz.underlying26 hi hz0 hz1 hz2 rfl (by decide) _ 0 [] hs r0 ⟨g,0,none⟩ l.length cap (l.map sv) hx (by simp) ((hrow.alloc _).cells rfl) (fun u hu=>by obtain⟨x,_,rfl⟩:=List.mem_map.1 hu;rfl) (by unfold maxLen;omega) (by omega) (by simp) ?_;intro v' w' h1 h2 h3;refine hK _ _ (h v' w' (by simpa using h1) (b0.grown h2 b0.size fun k hk=>?_));cases hk;exact nR _
end Go.Proofs.YtgppcegcpiaocaaGreatDoor
