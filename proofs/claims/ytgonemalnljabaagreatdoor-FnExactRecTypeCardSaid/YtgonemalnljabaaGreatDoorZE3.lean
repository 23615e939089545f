/- ETarg InS EL4S -/
import Derived.Test.YtgonemalnljabaaGreatDoorZE1
import Derived.Test.YtgonemalnljabaaGreatDoorZE2
set_option maxRecDepth 100000
set_option maxHeartbeats 16000000
set_option linter.unusedSimpArgs false
set_option linter.unusedVariables false
namespace Go.Proofs.YtgonemalnljabaaGreatDoor
open Go.ChangeShapes Go.WideShapes Go.ChangeAt Go.RowKit
theorem specTarget(s:ByteArray)(w:World)(hs:s.size≤maxLen) :
  Calls Tryz.prog 110 #[.string s] w fun e w'=>e=.returned (.string ⟨(yI s.data.toList).toArray⟩)∧Below w.heap.size w w':=by
 have f1:=Ld (specL06AllP s w hs)
 go_enter Tryz.func110,Tryz.ntmps110
 go_wp2_with fail
 (with_reducible refine f1.out.mono ?_);rintro e W ⟨v,ns,rfl,hrow,hb,hsl,(⟨t,ht,hn,hr⟩|⟨hno,rfl⟩)⟩
 rotate_left
 ·obtain⟨la,lc,rfl⟩:=yQ hrow
  have HE:Hid (yI s.data.toList=[]):=by rw[Hid,yI,yT hno]
  have HB:=Ld hb
  clear hrow hno hb f1 hsl
  go_wp2
  go_ret
  rw[HE.out]
  exact⟨rfl,HB.out⟩
 have HE:Hid (yI s.data.toList=t.targ.bytes):=by rw[Hid,yI,zY ht]
 have hle:=ht.2.2
 rw[← ht.2.1] at hle
 have hsz:=t.size_pos
 have hszl:=t.size_le
 have hn2:ns.length≤100000:=by omega
 obtain⟨k0,hk0⟩:∃ k0,ns.length=k0+1:=⟨ns.length - 1,by omega⟩
 have HR0:Hid (RepP W w.heap.size ns k0 t∧t.Ok∧t.bytes.length≤2000):=⟨by rw[show k0=ns.length - 1 by omega];exact hr,ht.1,hle⟩
 have HB:=Ld hb
 have HSL:=Ld hsl
 obtain⟨g,cap,rfl,_,hgl⟩:=hrow.form (by omega)
 have HROW:=Ld hrow
 have d0:(((ns.length:Nat):Int)==0)=false:=beq_eq_false_iff_ne.2 (by omega)
 have d0':(((k0:Int)+1)==0)=false:=beq_eq_false_iff_ne.2 (by omega)
 have HK0:=Ld hk0
 rw[hk0]
 clear f1 ht hsz hszl hb hsl hrow hr hle hn
 go_wp2
 go_loopw [4] (fun i wr=>∃ (j:Nat) (u:Tm),i=.int .i64 (j:Int)∧Hid (j<ns.length∧RepP W w.heap.size ns j u∧u.Ok∧u.bytes.length≤2000∧u.targ=t.targ)∧wr=W) (fun i _=>(intOf i).toNat)
 case atStart=>exact⟨k0,t,by go_num,⟨by omega,HR0.out.1,HR0.out.2.1,HR0.out.2.2,rfl⟩,rfl⟩
 case round =>
  obtain⟨j,u,rfl,HU,rfl⟩:=hrel
  obtain⟨nd,hnd,hkd⟩:=HU.out.2.1.1.kindAt
  have hjl:=HU.out.1
  have c0:wr.cell? ⟨g,j*7,none⟩=some (.int .u8 (nd.kind.toNat:Int)):=zC HROW.out hnd 0 (by decide)
  rw[hkd] at c0
  have q1:(0:Int)≤(j:Int):=by omega
  have q2:(j:Int)<(k0:Int)+1:=by omega
  by_cases hk:u.kind=112
  ·obtain⟨x,y,rfl⟩:=kind_pi hk
   obtain⟨nd2,h1,h2,h3,h4,h5,h6⟩:=HU.out.2.1.piAt
   obtain rfl:nd=nd2:=Option.some.inj (hnd.symm.trans h1)
   have c1:wr.cell? ⟨g,j*7+2,none⟩=some (.int .i64 (nd.b:Int)):=zC HROW.out hnd 2 (by decide)
   have HN:Hid (nd.b<ns.length∧RepP wr w.heap.size ns nd.b y∧y.Ok∧y.bytes.length≤2000∧y.targ=t.targ) := ⟨by omega,h6,HU.out.2.2.1.2,by have:=HU.out.2.2.2.1;simp only[Tm.bytes,List.length_cons,List.length_append] at this;omega,HU.out.2.2.2.2⟩
   have hz:nd.b<j:=h4
   generalize nd.b=jn at c1 HN hz
   have c0':wr.cell? ⟨g,j*7,none⟩=some (.int .u8 112):=c0
   clear c0 HU hnd hkd h1 h2 h3 h4 h5 h6 HR0 hk
   go_wp2
   go_roundw
   case rel=>exact⟨jn,_,rfl,HN.out,trivial⟩
   case measure=>simp[intOf];omega
  ·have b0:((u.kind.toNat:Int)==112)=false:=zO (d:=112) hk
   have hu:=(not_pi hk).1
   have f2:=Ld (specL06Text hn2 HSL.out u j wr _ HROW.out HU.out.2.1.1 HU.out.2.2.1 (by have:=HU.out.2.2.2.1;omega))
   have HE2:Hid (yI s.data.toList=u.bytes):=by rw[Hid,HE.out,← HU.out.2.2.2.2,hu]
   rw[HK0.out] at f2
   generalize u.kind=kd at c0 b0
   generalize u.bytes=ub at f2 HE2
   clear HU hnd hkd hu hk HR0 HE
   go_wp2_with fail
   (with_reducible refine f2.out.mono ?_);rintro e w2 ⟨rfl,hb2⟩
   have HB2:=Ld (HB.out.trans (hb2.mono HB.out.size))
   clear hb2
   go_wp2
   go_ret
   rw[HE2.out]
   exact⟨rfl,HB2.out⟩
theorem specNameIn{w:World}{b:Nat}{v:Value}{l:List (List UInt8)}(h:w.ownsRow b 9 1 v l.length (l.map sv))(y:List UInt8)(hn:l.length≤1048576) :
  Calls Tryz.prog 204 #[v,.string ⟨y.toArray⟩] w fun e w'=>e=.returned (.bool (inL l y))∧w'=w:=by
 rcases Nat.eq_zero_or_pos l.length with h0|hp
 ·obtain⟨a,cap,rfl⟩:=own_nil_or h h0
  obtain rfl:l=[]:=List.length_eq_zero_iff.1 h0
  clear h h0 hn
  go_enter Tryz.func204,Tryz.ntmps204
  go_wp2
  refine wp_loop_rounds 1 ?_
  rw[rounds_succ]
  go_wp2
  go_ret
  exact⟨rfl,rfl⟩
 ·obtain⟨g,cap,rfl,_,_⟩:=h.form hp
  go_enter Tryz.func204,Tryz.ntmps204
  go_wp2
  go_loopw [5] (fun i wr=>∃ k:Nat,k≤l.length∧i=.int .i64 k∧wr=w∧Hid (inL (l.take k) y=false)) (fun i _=>l.length - (intOf i).toNat)
  case atStart=>exact⟨0,Nat.zero_le _,rfl,rfl,by simp[Hid,inL]⟩
  case round =>
   obtain⟨k,hk,rfl,rfl,HA⟩:=hrel
   by_cases hlt:k<l.length
   ·have cc:=h.cellAt k (by omega)
    have ex:(l.map sv)[k]?=some (sv l[k]):=by simp[hlt]
    rw[ex] at cc
    unfold sv at cc
    have q1:(0:Int)≤(k:Int):=by omega
    have q2:(k:Int)<(l.length:Int):=by omega
    by_cases hE:l[k]=y
    ·have HR:=Ld (inL_at hlt hE)
     rw[hE] at cc
     clear h ex hE HA
     go_wp2
     go_ret
     rw[HR.out]
     exact⟨rfl,rfl⟩
    ·have HR:=Ld (inL_succ hlt HA.out hE)
     clear h ex HA
     generalize l[k]=x at cc hE
     have hE2:(x==y)=false:=by rw[beq_eq_false_iff_ne];exact hE
     go_wp2
     go_roundw
     case rel=>exact⟨k+1,by omega,by go_num,trivial,HR.out⟩
     case measure=>simp[intOf];omega
   ·obtain rfl:k=l.length:=by omega
    have HR:=HA.out
    rw[List.take_length] at HR
    have HR2:=Ld HR
    clear h HA HR
    go_wp2
    go_ret
    rw[HR2.out]
    exact⟨rfl,rfl⟩
theorem specHasName(s y:ByteArray)(w:World)(hs:s.size≤maxLen) :
  Calls Tryz.prog 164 #[.string s,.string y] w fun e w'=>e=.returned (.bool (inL (usesIn s.data.toList) y.data.toList))∧Below w.heap.size w w':=by
 have f1:=Ld (specUsesIn s w hs)
 have hn:=usesIn_len s.data.toList
 generalize usesIn s.data.toList=l at f1 hn
 go_enter Tryz.func164,Tryz.ntmps164
 go_wp2_with fail
 (with_reducible refine f1.out.mono ?_);rintro e w1 ⟨u,rfl,hu,hb⟩
 have f2:Hid (Calls Tryz.prog 204 #[u,.string y] w1 fun e w'=>e=.returned (.bool (inL l y.data.toList))∧w'=w1):=specNameIn hu y.data.toList (by omega)
 have HB:=Ld hb
 clear hu hb f1
 go_wp2_with fail
 (with_reducible refine f2.out.mono ?_);rintro e w2 ⟨rfl,rfl⟩
 go_wp2
 go_ret
 exact⟨rfl,HB.out⟩
end Go.Proofs.YtgonemalnljabaaGreatDoor
