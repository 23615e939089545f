/- TVarM TTextP -/
import Derived.Deep.RegionHeld3
import Derived.Test.YtgonemalnljabaaGreatDoorVA1
import Derived.Test.YtgonemalnljabaaGreatDoorVF1
set_option maxRecDepth 100000
set_option maxHeartbeats 16000000
set_option linter.unusedSimpArgs false
set_option linter.unusedVariables false
namespace Go.Proofs.YtgonemalnljabaaGreatDoor
open Go.ChangeShapes Go.WideShapes Go.ChangeAt Go.RowKit
theorem var_text (n:Nat):(⟨#[118]⟩:ByteArray) ++ ⟨(Lib.decDigits n).toArray⟩ ++ ⟨#[46]⟩=⟨((Tm.var n).bytes).toArray⟩:=by
 apply ByteArray.ext
 simp [Tm.bytes]
theorem specVar (n:Nat) (w:World) (hn:n≤1000000) :
  Calls Tryz.prog 118 #[.int .i64 (n:Int)] w fun e w'=>e=.returned (.string ⟨(Tm.var n).bytes.toArray⟩)∧Below w.heap.size w w':=by
 have f1:=Ld (decimal_any (n:Int) w (by omega) (by omega))
 rw [Lib.itoa_nonneg] at f1
 have HV:=Ld (var_text n)
 have hl:(Lib.decDigits n).length≤10:=digits_len (by omega)
 have hz:(⟨(Lib.decDigits n).toArray⟩:ByteArray).size=(Lib.decDigits n).length:=by simp [ByteArray.size]
 generalize Lib.decDigits n=d at f1 HV hl hz
 generalize (Tm.var n).bytes=t at HV
 go_enter Tryz.func118,Tryz.ntmps118
 go_wp2_with fail
 (with_reducible refine f1.out.mono ?_);rintro e w1 ⟨rfl,hb⟩
 go_wp2
 go_ret
 rw [← HV.out]
 exact ⟨rfl,hb⟩
section
variable {P:Program} {ops:Array Oper} {Q:Exit→Act→World→Prop} {md:Region.Mode} {S S':World→Prop}
theorem heldT (i d:Nat) (v:Value) {oi:Oper} {fuel:Nat} {listed:Array Bool} {a:Act} {w:World} (hi:ops[i]?=some oi) (hd:oi.dst=some d)
  (hs:Region.noSelect ops=true) (hf:Region.free md ops listed i=true) (hr:(Region.ready md ops listed).contains i=true)
  (hQ:∀ c a w,Q (.panic c) (a.put (some d) v) w→Q (.panic c) a w) (hw:Region.wanted oi (yielded ops a.tmps)=true) (hS:S w)
  (hrun:∀ w,S w→(execOp a.eval oi).run P w=.ok (.value v) w)
  (h:wpAnyH P md ops Q S fuel (listed.setIfInBounds i true) (a.put (some d) v) w):wpAnyH P md ops Q S (fuel+1) listed a w :=
 wpAnyH_take hi hs hf hr (by rw [hd];exact hQ) (Or.inl ⟨hw,hrun⟩) hS (by rw [hd];exact h)
theorem HT (i d:Nat) (v:Value) {oi:Oper} {fuel:Nat} {listed:Array Bool} {a:Act} {w:World} (hS:S w) (hrun:∀ w,S w→(execOp a.eval oi).run P w=.ok (.value v) w) (h:wpAnyH P md ops Q S fuel (listed.setIfInBounds i true) (a.put (some d) v) w) (hi:ops[i]? =some oi:=by exact rfl) (hd:oi.dst=some d:=by exact rfl) (hs:Region.noSelect ops=true:=by kernel_rfl) (hf:Region.free md ops listed i=true:=by kernel_rfl) (hr:(Region.ready md ops listed).contains i=true:=by kernel_rfl) (hQ:∀ c a w,Q (.panic c) (a.put (some d) v) w→Q (.panic c) a w:=by exact fun _ _ _ h=>h) (hw:Region.wanted oi (yielded ops a.tmps)=true:=by rfl) :wpAnyH P md ops Q S (fuel+1) listed a w:=heldT i d v hi hd hs hf hr hQ hw hS hrun h
theorem HU (i d:Nat) (v:Value) {oi:Oper} {fuel:Nat} {listed:Array Bool} {a:Act} {w:World} (hS:S w) (h:wpAnyH P md ops Q S fuel (listed.setIfInBounds i true) (a.put (some d) v) w) (hi:ops[i]? =some oi:=by exact rfl) (hd:oi.dst=some d:=by exact rfl) (hs:Region.noSelect ops=true:=by kernel_rfl) (hf:Region.free md ops listed i=true:=by kernel_rfl) (hr:(Region.ready md ops listed).contains i=true:=by kernel_rfl) (hQ:∀ c a w,Q (.panic c) (a.put (some d) v) w→Q (.panic c) a w:=by exact fun _ _ _ h=>h) (hw:Region.wanted oi (yielded ops a.tmps)=true:=by rfl) (hrun:∀ w,S w→(execOp a.eval oi).run P w=.ok (.value v) w:=by (intro W hSW;(try dsimp only at hSW);(try obtain ⟨hSA,hSB⟩:=hSW);go_simp)) :wpAnyH P md ops Q S (fuel+1) listed a w:=heldT i d v hi hd hs hf hr hQ hw hS hrun h
end
def LeafT (W:World) (B:Nat) (nd:Nd):Tm→Prop
 | .var n=>nd.kind=118∧nd.num=n
 | .sort l=>nd.kind=115∧nd.text=l
 | .const nm ls=>nd.kind=99∧nd.text=nm∧W.ownsRow B 9 1 nd.lv ls.length (ls.map sv)
 | _=>False
def RepT (W:World) (B:Nat) (ns:List Nd):Nat→Tm→Prop
 | k,.var n=>∃ nd,ns[k]?=some nd∧LeafT W B nd (.var n)
 | k,.sort l=>∃ nd,ns[k]?=some nd∧LeafT W B nd (.sort l)
 | k,.const n ls=>∃ nd,ns[k]?=some nd∧LeafT W B nd (.const n ls)
 | k,.app f a=>∃ nd,ns[k]?=some nd∧nd.kind=64∧RepT W B ns nd.a f∧RepT W B ns nd.b a
 | k,.lam d b=>∃ nd,ns[k]?=some nd∧nd.kind=108∧RepT W B ns nd.a d∧RepT W B ns nd.b b
 | k,.pi d b=>∃ nd,ns[k]?=some nd∧nd.kind=112∧RepT W B ns nd.a d∧RepT W B ns nd.b b
 | k,.lett t v b=>∃ nd,ns[k]?=some nd∧nd.kind=116∧RepT W B ns nd.a t∧RepT W B ns nd.b v∧RepT W B ns nd.c b
theorem RepT.keep {W W':World} {B:Nat} {ns ns':List Nd} (hk:KeepS B W W') (he:Ext ns ns'):∀ (t:Tm) (k:Nat),RepT W B ns k t→RepT W' B ns' k t
 | .var _,_,⟨nd,h1,h2⟩=>⟨nd,he _ _ h1,h2⟩
 | .sort _,_,⟨nd,h1,h2⟩=>⟨nd,he _ _ h1,h2⟩
 | .const _ _,_,⟨nd,h1,h2,h3,h4⟩=>⟨nd,he _ _ h1,h2,h3,hk _ _ _ h4⟩
 | .app f a,_,⟨nd,h1,h2,h3,h4⟩=>⟨nd,he _ _ h1,h2,RepT.keep hk he f _ h3,RepT.keep hk he a _ h4⟩
 | .lam f a,_,⟨nd,h1,h2,h3,h4⟩=>⟨nd,he _ _ h1,h2,RepT.keep hk he f _ h3,RepT.keep hk he a _ h4⟩
 | .pi f a,_,⟨nd,h1,h2,h3,h4⟩=>⟨nd,he _ _ h1,h2,RepT.keep hk he f _ h3,RepT.keep hk he a _ h4⟩
 | .lett f a b,_,⟨nd,h1,h2,h3,h4,h5⟩=>⟨nd,he _ _ h1,h2,RepT.keep hk he f _ h3,RepT.keep hk he a _ h4,RepT.keep hk he b _ h5⟩
end Go.Proofs.YtgonemalnljabaaGreatDoor
