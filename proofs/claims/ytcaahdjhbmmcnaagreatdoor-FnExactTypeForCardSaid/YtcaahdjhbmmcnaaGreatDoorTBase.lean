/- Base -/
import Derived.Test.YtcaahdjhbmmcnaaGreatDoorRows
import Derived.WalkKit
import Derived.ProofKit
import Derived.OpenShut
import Derived.Lib.Hide
import Derived.Deep.AppendLies
import Derived.Deep.RegionLaw
import Derived.Deep.QuietTactic
import Derived.BigQuiet
import Derived.Maps.AppendAt
import Derived.Laws.BytesArg
import Derived.Laws.IdiomStrings
set_option maxRecDepth 100000
set_option maxHeartbeats 16000000
set_option linter.unusedSimpArgs false
set_option linter.unusedVariables false
namespace Go.Proofs.YtcaahdjhbmmcnaaGreatDoor
open Go.ChangeShapes Go.WideShapes Go.ChangeAt Go.RowKit
abbrev Rt(f:Nat)(x:Array Value)(w:World)(v:Value):Prop:=Calls Tryz.prog f x w fun e w'=>e=.returned v/\Below w.heap.size w w'
abbrev dC(kd:Int)(nm:List UInt8)(ps fl:Int)(ty vl:List UInt8)(u:Value)(T:TypeId)(r:Nat×Nat:=(0,0)):Obj:=.cells #[.int .i64 kd,.string ⟨nm.toArray⟩,.int .i64 ps,.int .i64 fl,.string ⟨ty.toArray⟩,.string ⟨vl.toArray⟩,u] T r
theorem bu{w x y:World}(h:Below w.heap.size w x)(k:Below x.heap.size x y):Below w.heap.size w y:=h.trans (k.mono h.size)
theorem bt{w x y:World}(h:Below w.heap.size w x)(k:Below x.heap.size x y):Hid (Below w.heap.size w y):=h.trans (k.mono h.size)
theorem zn(k:Nat):(0:Int)<=(k:Int):=by omega
theorem mo{P:Program}{f:FuncId}{x:Array Value}{w:World}{v:Value}{R:World->Prop}{Q:Ending->World->Prop}(h:Calls P f x w fun e w'=>e=.returned v/\R w')(k:∀ w',R w'->Q (.returned v) w'):Calls P f x w Q:=h.mono (by rintro e w' ⟨rfl,hr⟩;exact k w' hr)
theorem nR(n:Nat):n<=n:=Nat.le_refl n
theorem lA{α}{a b:List α}:(a++b).length=a.length+b.length:=List.length_append
theorem lC{α}{a:α}{l:List α}:(a::l).length=l.length+1:=List.length_cons
theorem dF{p:Prop}[i:Decidable p](h:¬p):decide p=false:=decide_eq_false h
theorem dT{p:Prop}[i:Decidable p](h:p):decide p=true:=decide_eq_true h
theorem bR(b:Nat)(w:World):Below b w w:=Below.refl b w
theorem bF{α}[BEq α][LawfulBEq α]{a b:α}:(a==b)=false↔a≠b:=beq_eq_false_iff_ne
theorem iN{c:Prop}{h:Decidable c}(k:¬c){α}{t e:α}:ite c t e=e:=if_neg k
theorem iP{c:Prop}{h:Decidable c}(k:c){α}{t e:α}:ite c t e=t:=if_pos k
def bv (c:UInt8):Value:=.int .u8 (c.toNat:Int)
theorem rV{P:Program}{t e d:TypeId}{v:Value}{base n:Nat}{l:List UInt8}(w:World)(ht:P.underlying t=some (.slice e))(he:P.underlying e=some (.int .u8))(hd:P.underlying d=some .string)
  (h:w.ownsRow base e 1 v n (l.map bv)):(convert t d v).run P w=.ok (.string ⟨l.toArray⟩) w:=by
 have hn:l.length=n:=by simpa using h.1
 rcases h.2 with ⟨rfl,rfl⟩|⟨g,cap,cur,rfl,_⟩
 ·rw[List.length_eq_zero_iff] at hn;subst hn;exact run_convert_bytes_nil w t e ht he 0 0 d hd
 ·subst hn;refine run_convert_bytes_back w t d e ⟨g,0,none⟩ cap l ht he hd fun j hj=>?_;refine h.cells (g:=g) rfl j _ ?_;simp[bv,hj]
def sv (l:List UInt8):Value:=.string ⟨l.toArray⟩
theorem lH{P:Program}{t e d:TypeId}(w:World)(x:Int)(ht:P.underlying t=some (.slice e))(he:P.underlying e=some (.int .u8))(hd:P.underlying d=some .string)(h0:0<=x)(h1:x<=255) :
  (convert t d (.slice (some ⟨w.heap.size,0,none⟩) 1 1)).run P (w.alloc (.cells #[.int .u8 x] e))=.ok (.string ⟨#[UInt8.ofNat x.toNat]⟩) (w.alloc (.cells #[.int .u8 x] e)):=by
 have hx:bv (UInt8.ofNat x.toNat)=.int .u8 x:=by simp only[bv];congr 1;simp;omega
 have h:=World.ownsRow_lit (base:=0) (e:=e) (size:=1) w #[.int .u8 x] 1 (Nat.zero_le _) (by decide) (by simp);exact rV (l:=[UInt8.ofNat x.toNat]) _ ht he hd (by simpa [hx] using h)
theorem yI(w:World)(x:Value)(t:TypeId):∀ j u,[x][j]?=some u->((w.alloc (.cells #[x] t)).cell? ((⟨w.heap.size,0,none⟩:Addr).add j))=some u :=
 World.news_of_block (cs:=#[x]) (t:=t) (fr:=(0,0)) (heap_alloc_new w _)
theorem zC{w w':World}(h:Below w.heap.size w w')(row:Option Nat):w.grownBy w' row:=⟨h.os,h.tape,h.output,h.size,fun i hi _=>h.block i hi⟩
theorem zA{w w':World}{base:Nat}{e:TypeId}{size n:Nat}{v:Value}{xs:List Value}(h:w.ownsRow base e size v n xs)(hb:Below w.heap.size w w'):w'.ownsRow base e size v n xs:=by
 refine h.kept (zC hb none) ?_;cases v.ownBlock<;>simp
theorem sZ{w w':World}{b b':Nat}{e e':TypeId}{z z' n n':Nat}{v v':Value}{xs xs':List Value}(h:w.ownsRow b e z v n xs)(h':w.ownsRow b' e' z' v' n' xs')(hne:e≠e')(hg:w.grownBy w' v'.ownBlock) :
  w'.ownsRow b e z v n xs:=by
 refine h.kept hg ?_;rcases h.2 with ⟨rfl,_⟩|⟨g,cap,cur,rfl,_,hh,_⟩
 ·exact .inl rfl
 ·rcases h'.2 with ⟨rfl,_⟩|⟨g',cap',cur',rfl,_,hh',_⟩
  ·exact .inr (by simp[Value.ownBlock])
  ·refine .inr ?_;simp only[Value.ownBlock,ne_eq,Option.some.injEq];intro hgg;subst hgg;rw[hh] at hh';simp only[Option.some.injEq,Obj.cells.injEq] at hh';exact hne hh'.2.1
theorem tR{w:World}{b:Nat}{e:TypeId}{z n:Nat}{v:Value}{xs:List Value}(h:w.ownsRow b e z v n xs)(q:Nat):(w.drewN q).ownsRow b e z v n xs:=h
theorem nA(s:ByteArray)(b k:Nat):Value.string (s.extract b k)=sv ((s.data.toList.drop b).take (k - b)):=by
 unfold sv;congr 1;apply ByteArray.ext;apply Array.toList_inj.1;simp[ByteArray.data_extract,Array.toList_extract]
theorem zH{B:Nat}{a w:World}(h:Below B a w)(q:Nat):Below B a (w.drewN q):=⟨h.os,h.tape,h.output,h.size,h.block⟩
theorem aO{a b:ByteArray}(h:a.data.toList=b.data.toList):a=b:=by
 cases a;cases b;simp_all
theorem eA {α:Type} (l:List α) (i:Nat) (a:α):l.toArray.setIfInBounds i a=(l.set i a).toArray:=by simp
theorem eB {α:Type} {a b:α} {l:List α}:(a::l).set 0 b=b::l:=rfl
theorem eC {α:Type} {a b:α} {l:List α} {i:Nat}:(a::l).set (i+1) b=a::l.set i b:=rfl
theorem Ld {p:Prop} (h:p):Hid p:=Lib.hid h
end Go.Proofs.YtcaahdjhbmmcnaaGreatDoor
