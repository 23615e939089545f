/- QLk -/
import Derived.Test.YtgppcegcpiaocaaGreatDoorNQKnw
import Derived.Test.YtgppcegcpiaocaaGreatDoorNJF2
set_option maxRecDepth 100000
set_option maxHeartbeats 16000000
set_option linter.unusedSimpArgs false
set_option linter.unusedVariables false
namespace Go.Proofs.YtgppcegcpiaocaaGreatDoor
open Go.ChangeShapes Go.WideShapes Go.ChangeAt Go.RowKit
theorem xD8:zH [112,115,117,48,46,112,118,48,46,118,49,46] 1=true:=by
 have ho:((.pi (.sort [117,48]) (.pi (.var 0) (.var 1))):Tm).Ok:=by simp[Tm.Ok,zD,zY]<;>decide
 have hb:((.pi (.sort [117,48]) (.pi (.var 0) (.var 1))):Tm).bytes=[112,115,117,48,46,112,118,48,46,118,49,46]:=by simp[Tm.bytes,Tm.targ,Tm.doms,Tm.cnames,Tm.opn,Tm.params,yH,Lib.decDigits_one,zC,xJ,zD,zY]
 have hn:((.pi (.sort [117,48]) (.pi (.var 0) (.var 1))):Tm).opn=0:=by decide
 have hp:((((.pi (.sort [117,48]) (.pi (.var 0) (.var 1))):Tm).params:Nat):Int)<=1:=by simp[Tm.bytes,Tm.targ,Tm.doms,Tm.cnames,Tm.opn,Tm.params,yH,Lib.decDigits_one,zC,xJ,zD,zY]<;>decide
 have h:=yJ (p:=1) ho (by rw[hb];decide) hn hp;rw[hb] at h;exact h
theorem xD0:zH [108,115,117,48,46,108,118,48,46,118,48,46] 1=true:=by
 have ho:((.lam (.sort [117,48]) (.lam (.var 0) (.var 0))):Tm).Ok:=by simp[Tm.Ok,zD,zY]<;>decide
 have hb:((.lam (.sort [117,48]) (.lam (.var 0) (.var 0))):Tm).bytes=[108,115,117,48,46,108,118,48,46,118,48,46]:=by simp[Tm.bytes,Tm.targ,Tm.doms,Tm.cnames,Tm.opn,Tm.params,yH,Lib.decDigits_one,zC,xJ,zD,zY]
 have hn:((.lam (.sort [117,48]) (.lam (.var 0) (.var 0))):Tm).opn=0:=by decide
 have hp:((((.lam (.sort [117,48]) (.lam (.var 0) (.var 0))):Tm).params:Nat):Int)<=1:=by simp[Tm.bytes,Tm.targ,Tm.doms,Tm.cnames,Tm.opn,Tm.params,yH,Lib.decDigits_one,zC,xJ,zD,zY]<;>decide
 have h:=yJ (p:=1) ho (by rw[hb];decide) hn hp;rw[hb] at h;exact h
theorem lib1_ok:zJ lib1=true:=by
 have h0:zI [105,100]=true:=by decide
 show (zI [105,100]&&((decide ((0:Int)<=1)&&decide ((1:Int)<=3))&&((decide ((0:Int)<=0)&&decide ((0:Int)<=7))&&(zH [112,115,117,48,46,112,118,48,46,118,49,46] 1&&zQ lib1))))=true;rw[h0,xD8];have hk:zQ lib1=true:=by
  show (if (2:Int)=1 then _ else if (2:Int)=2\/(2:Int)=3 then decide ((0:Int)<=1)&&(zH [108,115,117,48,46,108,118,48,46,118,48,46] 1&&decide (([]:List Ct).length=0)) else _)=true;rw[iN (by decide),iP (by decide),xD0]
  decide
 rw[hk]
 decide
theorem xD7:zH [99,110,97,116,59,46] 0=true:=by
 have ho:((.const [110,97,116] []):Tm).Ok:=by simp[Tm.Ok,zD,zY]<;>decide
 have hb:((.const [110,97,116] []):Tm).bytes=[99,110,97,116,59,46]:=by simp[Tm.bytes,Tm.targ,Tm.doms,Tm.cnames,Tm.opn,Tm.params,yH,Lib.decDigits_one,zC,xJ,zD,zY]
 have hn:((.const [110,97,116] []):Tm).opn=0:=by decide
 have hp:((((.const [110,97,116] []):Tm).params:Nat):Int)<=0:=by simp[Tm.bytes,Tm.targ,Tm.doms,Tm.cnames,Tm.opn,Tm.params,yH,Lib.decDigits_one,zC,xJ,zD,zY]<;>decide
 have h:=yJ (p:=0) ho (by rw[hb];decide) hn hp;rw[hb] at h;exact h
theorem xC9:zH [64,99,110,97,116,46,115,117,99,99,59,46,99,110,97,116,46,122,101,114,111,59,46] 0=true:=by
 have ho:((.app (.const [110,97,116,46,115,117,99,99] []) (.const [110,97,116,46,122,101,114,111] [])):Tm).Ok:=by simp[Tm.Ok,zD,zY]<;>decide
 have hb:((.app (.const [110,97,116,46,115,117,99,99] []) (.const [110,97,116,46,122,101,114,111] [])):Tm).bytes=[64,99,110,97,116,46,115,117,99,99,59,46,99,110,97,116,46,122,101,114,111,59,46]:=by simp[Tm.bytes,Tm.targ,Tm.doms,Tm.cnames,Tm.opn,Tm.params,yH,Lib.decDigits_one,zC,xJ,zD,zY]
 have hn:((.app (.const [110,97,116,46,115,117,99,99] []) (.const [110,97,116,46,122,101,114,111] [])):Tm).opn=0:=by decide
 have hp:((((.app (.const [110,97,116,46,115,117,99,99] []) (.const [110,97,116,46,122,101,114,111] [])):Tm).params:Nat):Int)<=0:=by simp[Tm.bytes,Tm.targ,Tm.doms,Tm.cnames,Tm.opn,Tm.params,yH,Lib.decDigits_one,zC,xJ,zD,zY]<;>decide
 have h:=yJ (p:=0) ho (by rw[hb];decide) hn hp;rw[hb] at h;exact h
theorem lib2_ok:zJ lib2=true:=by
 have h0:zI [111,110,101]=true:=by decide
 show (zI [111,110,101]&&((decide ((0:Int)<=0)&&decide ((0:Int)<=3))&&((decide ((0:Int)<=0)&&decide ((0:Int)<=7))&&(zH [99,110,97,116,59,46] 0&&zQ lib2))))=true;rw[h0,xD7];have hk:zQ lib2=true:=by
  show (if (2:Int)=1 then _ else if (2:Int)=2\/(2:Int)=3 then decide ((0:Int)<=1)&&(zH [64,99,110,97,116,46,115,117,99,99,59,46,99,110,97,116,46,122,101,114,111,59,46] 0&&decide (([]:List Ct).length=0)) else _)=true;rw[iN (by decide),iP (by decide),xC9]
  decide
 rw[hk]
 decide
theorem xD6:zH [112,99,110,97,116,59,46,112,99,110,97,116,59,46,99,110,97,116,59,46] 0=true:=by
 have ho:((.pi (.const [110,97,116] []) (.pi (.const [110,97,116] []) (.const [110,97,116] []))):Tm).Ok:=by simp[Tm.Ok,zD,zY]<;>decide
 have hb:((.pi (.const [110,97,116] []) (.pi (.const [110,97,116] []) (.const [110,97,116] []))):Tm).bytes=[112,99,110,97,116,59,46,112,99,110,97,116,59,46,99,110,97,116,59,46]:=by simp[Tm.bytes,Tm.targ,Tm.doms,Tm.cnames,Tm.opn,Tm.params,yH,Lib.decDigits_one,zC,xJ,zD,zY]
 have hn:((.pi (.const [110,97,116] []) (.pi (.const [110,97,116] []) (.const [110,97,116] []))):Tm).opn=0:=by decide
 have hp:((((.pi (.const [110,97,116] []) (.pi (.const [110,97,116] []) (.const [110,97,116] []))):Tm).params:Nat):Int)<=0:=by simp[Tm.bytes,Tm.targ,Tm.doms,Tm.cnames,Tm.opn,Tm.params,yH,Lib.decDigits_one,zC,xJ,zD,zY]<;>decide
 have h:=yJ (p:=0) ho (by rw[hb];decide) hn hp;rw[hb] at h;exact h
theorem xC8:zH [108,99,110,97,116,59,46,108,99,110,97,116,59,46,64,64,64,64,99,110,97,116,46,114,101,99,59,43,122,44,46,108,99,110,97,116,59,46,99,110,97,116,59,46,118,49,46,108,99,110,97,116,59,46,108,99,110,97,116,59,46,64,99,110,97,116,46,115,117,99,99,59,46,118,48,46,118,48,46] 0=true:=by
 have ho:((.lam (.const [110,97,116] []) (.lam (.const [110,97,116] []) (.app (.app (.app (.app (.const [110,97,116,46,114,101,99] [[43,122]]) (.lam (.const [110,97,116] []) (.const [110,97,116] []))) (.var 1)) (.lam (.const [110,97,116] []) (.lam (.const [110,97,116] []) (.app (.const [110,97,116,46,115,117,99,99] []) (.var 0))))) (.var 0)))):Tm).Ok:=by simp[Tm.Ok,zD,zY]<;>decide
 have hb:((.lam (.const [110,97,116] []) (.lam (.const [110,97,116] []) (.app (.app (.app (.app (.const [110,97,116,46,114,101,99] [[43,122]]) (.lam (.const [110,97,116] []) (.const [110,97,116] []))) (.var 1)) (.lam (.const [110,97,116] []) (.lam (.const [110,97,116] []) (.app (.const [110,97,116,46,115,117,99,99] []) (.var 0))))) (.var 0)))):Tm).bytes=[108,99,110,97,116,59,46,108,99,110,97,116,59,46,64,64,64,64,99,110,97,116,46,114,101,99,59,43,122,44,46,108,99,110,97,116,59,46,99,110,97,116,59,46,118,49,46,108,99,110,97,116,59,46,108,99,110,97,116,59,46,64,99,110,97,116,46,115,117,99,99,59,46,118,48,46,118,48,46]:=by simp[Tm.bytes,Tm.targ,Tm.doms,Tm.cnames,Tm.opn,Tm.params,yH,Lib.decDigits_one,zC,xJ,zD,zY]
 have hn:((.lam (.const [110,97,116] []) (.lam (.const [110,97,116] []) (.app (.app (.app (.app (.const [110,97,116,46,114,101,99] [[43,122]]) (.lam (.const [110,97,116] []) (.const [110,97,116] []))) (.var 1)) (.lam (.const [110,97,116] []) (.lam (.const [110,97,116] []) (.app (.const [110,97,116,46,115,117,99,99] []) (.var 0))))) (.var 0)))):Tm).opn=0:=by decide
 have hp:((((.lam (.const [110,97,116] []) (.lam (.const [110,97,116] []) (.app (.app (.app (.app (.const [110,97,116,46,114,101,99] [[43,122]]) (.lam (.const [110,97,116] []) (.const [110,97,116] []))) (.var 1)) (.lam (.const [110,97,116] []) (.lam (.const [110,97,116] []) (.app (.const [110,97,116,46,115,117,99,99] []) (.var 0))))) (.var 0)))):Tm).params:Nat):Int)<=0:=by simp[Tm.bytes,Tm.targ,Tm.doms,Tm.cnames,Tm.opn,Tm.params,yH,Lib.decDigits_one,zC,xJ,zD,zY]<;>decide
 have h:=yJ (p:=0) ho (by rw[hb];decide) hn hp;rw[hb] at h;exact h
theorem lib3_ok:zJ lib3=true:=by
 have h0:zI [97,100,100]=true:=by decide
 show (zI [97,100,100]&&((decide ((0:Int)<=0)&&decide ((0:Int)<=3))&&((decide ((0:Int)<=0)&&decide ((0:Int)<=7))&&(zH [112,99,110,97,116,59,46,112,99,110,97,116,59,46,99,110,97,116,59,46] 0&&zQ lib3))))=true;rw[h0,xD6];have hk:zQ lib3=true:=by
  show (if (2:Int)=1 then _ else if (2:Int)=2\/(2:Int)=3 then decide ((0:Int)<=1)&&(zH [108,99,110,97,116,59,46,108,99,110,97,116,59,46,64,64,64,64,99,110,97,116,46,114,101,99,59,43,122,44,46,108,99,110,97,116,59,46,99,110,97,116,59,46,118,49,46,108,99,110,97,116,59,46,108,99,110,97,116,59,46,64,99,110,97,116,46,115,117,99,99,59,46,118,48,46,118,48,46] 0&&decide (([]:List Ct).length=0)) else _)=true;rw[iN (by decide),iP (by decide),xC8]
  decide
 rw[hk]
 decide
theorem xD5:zH [112,115,117,48,46,112,118,48,46,112,118,49,46,115,122,46] 1=true:=by
 have ho:((.pi (.sort [117,48]) (.pi (.var 0) (.pi (.var 1) (.sort [122])))):Tm).Ok:=by simp[Tm.Ok,zD,zY]<;>decide
 have hb:((.pi (.sort [117,48]) (.pi (.var 0) (.pi (.var 1) (.sort [122])))):Tm).bytes=[112,115,117,48,46,112,118,48,46,112,118,49,46,115,122,46]:=by simp[Tm.bytes,Tm.targ,Tm.doms,Tm.cnames,Tm.opn,Tm.params,yH,Lib.decDigits_one,zC,xJ,zD,zY]
 have hn:((.pi (.sort [117,48]) (.pi (.var 0) (.pi (.var 1) (.sort [122])))):Tm).opn=0:=by decide
 have hp:((((.pi (.sort [117,48]) (.pi (.var 0) (.pi (.var 1) (.sort [122])))):Tm).params:Nat):Int)<=1:=by simp[Tm.bytes,Tm.targ,Tm.doms,Tm.cnames,Tm.opn,Tm.params,yH,Lib.decDigits_one,zC,xJ,zD,zY]<;>decide
 have h:=yJ (p:=1) ho (by rw[hb];decide) hn hp;rw[hb] at h;exact h
theorem xC7:zH [108,115,117,48,46,108,118,48,46,108,118,49,46,112,112,118,50,46,115,122,46,112,64,118,48,46,118,50,46,64,118,49,46,118,50,46] 1=true:=by
 have ho:((.lam (.sort [117,48]) (.lam (.var 0) (.lam (.var 1) (.pi (.pi (.var 2) (.sort [122])) (.pi (.app (.var 0) (.var 2)) (.app (.var 1) (.var 2))))))):Tm).Ok:=by simp[Tm.Ok,zD,zY]<;>decide
 have hb:((.lam (.sort [117,48]) (.lam (.var 0) (.lam (.var 1) (.pi (.pi (.var 2) (.sort [122])) (.pi (.app (.var 0) (.var 2)) (.app (.var 1) (.var 2))))))):Tm).bytes=[108,115,117,48,46,108,118,48,46,108,118,49,46,112,112,118,50,46,115,122,46,112,64,118,48,46,118,50,46,64,118,49,46,118,50,46]:=by simp[Tm.bytes,Tm.targ,Tm.doms,Tm.cnames,Tm.opn,Tm.params,yH,Lib.decDigits_one,zC,xJ,zD,zY]
 have hn:((.lam (.sort [117,48]) (.lam (.var 0) (.lam (.var 1) (.pi (.pi (.var 2) (.sort [122])) (.pi (.app (.var 0) (.var 2)) (.app (.var 1) (.var 2))))))):Tm).opn=0:=by decide
 have hp:((((.lam (.sort [117,48]) (.lam (.var 0) (.lam (.var 1) (.pi (.pi (.var 2) (.sort [122])) (.pi (.app (.var 0) (.var 2)) (.app (.var 1) (.var 2))))))):Tm).params:Nat):Int)<=1:=by simp[Tm.bytes,Tm.targ,Tm.doms,Tm.cnames,Tm.opn,Tm.params,yH,Lib.decDigits_one,zC,xJ,zD,zY]<;>decide
 have h:=yJ (p:=1) ho (by rw[hb];decide) hn hp;rw[hb] at h;exact h
theorem lib4_ok:zJ lib4=true:=by
 have h0:zI [101,113]=true:=by decide
 show (zI [101,113]&&((decide ((0:Int)<=1)&&decide ((1:Int)<=3))&&((decide ((0:Int)<=0)&&decide ((0:Int)<=7))&&(zH [112,115,117,48,46,112,118,48,46,112,118,49,46,115,122,46] 1&&zQ lib4))))=true;rw[h0,xD5];have hk:zQ lib4=true:=by
  show (if (2:Int)=1 then _ else if (2:Int)=2\/(2:Int)=3 then decide ((0:Int)<=1)&&(zH [108,115,117,48,46,108,118,48,46,108,118,49,46,112,112,118,50,46,115,122,46,112,64,118,48,46,118,50,46,64,118,49,46,118,50,46] 1&&decide (([]:List Ct).length=0)) else _)=true;rw[iN (by decide),iP (by decide),xC7]
  decide
 rw[hk]
 decide
theorem xD4:zH [112,115,117,48,46,112,118,48,46,64,64,64,99,101,113,59,117,48,44,46,118,49,46,118,48,46,118,48,46] 1=true:=by
 have ho:((.pi (.sort [117,48]) (.pi (.var 0) (.app (.app (.app (.const [101,113] [[117,48]]) (.var 1)) (.var 0)) (.var 0)))):Tm).Ok:=by simp[Tm.Ok,zD,zY]<;>decide
 have hb:((.pi (.sort [117,48]) (.pi (.var 0) (.app (.app (.app (.const [101,113] [[117,48]]) (.var 1)) (.var 0)) (.var 0)))):Tm).bytes=[112,115,117,48,46,112,118,48,46,64,64,64,99,101,113,59,117,48,44,46,118,49,46,118,48,46,118,48,46]:=by simp[Tm.bytes,Tm.targ,Tm.doms,Tm.cnames,Tm.opn,Tm.params,yH,Lib.decDigits_one,zC,xJ,zD,zY]
 have hn:((.pi (.sort [117,48]) (.pi (.var 0) (.app (.app (.app (.const [101,113] [[117,48]]) (.var 1)) (.var 0)) (.var 0)))):Tm).opn=0:=by decide
 have hp:((((.pi (.sort [117,48]) (.pi (.var 0) (.app (.app (.app (.const [101,113] [[117,48]]) (.var 1)) (.var 0)) (.var 0)))):Tm).params:Nat):Int)<=1:=by simp[Tm.bytes,Tm.targ,Tm.doms,Tm.cnames,Tm.opn,Tm.params,yH,Lib.decDigits_one,zC,xJ,zD,zY]<;>decide
 have h:=yJ (p:=1) ho (by rw[hb];decide) hn hp;rw[hb] at h;exact h
theorem xC6:zH [108,115,117,48,46,108,118,48,46,108,112,118,49,46,115,122,46,108,64,118,48,46,118,49,46,118,48,46] 1=true:=by
 have ho:((.lam (.sort [117,48]) (.lam (.var 0) (.lam (.pi (.var 1) (.sort [122])) (.lam (.app (.var 0) (.var 1)) (.var 0))))):Tm).Ok:=by simp[Tm.Ok,zD,zY]<;>decide
 have hb:((.lam (.sort [117,48]) (.lam (.var 0) (.lam (.pi (.var 1) (.sort [122])) (.lam (.app (.var 0) (.var 1)) (.var 0))))):Tm).bytes=[108,115,117,48,46,108,118,48,46,108,112,118,49,46,115,122,46,108,64,118,48,46,118,49,46,118,48,46]:=by simp[Tm.bytes,Tm.targ,Tm.doms,Tm.cnames,Tm.opn,Tm.params,yH,Lib.decDigits_one,zC,xJ,zD,zY]
 have hn:((.lam (.sort [117,48]) (.lam (.var 0) (.lam (.pi (.var 1) (.sort [122])) (.lam (.app (.var 0) (.var 1)) (.var 0))))):Tm).opn=0:=by decide
 have hp:((((.lam (.sort [117,48]) (.lam (.var 0) (.lam (.pi (.var 1) (.sort [122])) (.lam (.app (.var 0) (.var 1)) (.var 0))))):Tm).params:Nat):Int)<=1:=by simp[Tm.bytes,Tm.targ,Tm.doms,Tm.cnames,Tm.opn,Tm.params,yH,Lib.decDigits_one,zC,xJ,zD,zY]<;>decide
 have h:=yJ (p:=1) ho (by rw[hb];decide) hn hp;rw[hb] at h;exact h
theorem xJ7:zJ xJ8=true:=by
 have h0:zI [101,113,46,114,101,102,108]=true:=by decide
 show (zI [101,113,46,114,101,102,108]&&((decide ((0:Int)<=1)&&decide ((1:Int)<=3))&&((decide ((0:Int)<=0)&&decide ((0:Int)<=7))&&(zH [112,115,117,48,46,112,118,48,46,64,64,64,99,101,113,59,117,48,44,46,118,49,46,118,48,46,118,48,46] 1&&zQ xJ8))))=true;rw[h0,xD4];have hk:zQ xJ8=true:=by
  show (if (3:Int)=1 then _ else if (3:Int)=2\/(3:Int)=3 then decide ((0:Int)<=1)&&(zH [108,115,117,48,46,108,118,48,46,108,112,118,49,46,115,122,46,108,64,118,48,46,118,49,46,118,48,46] 1&&decide (([]:List Ct).length=0)) else _)=true;rw[iN (by decide),iP (by decide),xC6]
  decide
 rw[hk]
 decide
theorem xD3:zH [64,64,64,99,101,113,59,43,122,44,46,99,110,97,116,59,46,64,64,99,97,100,100,59,46,99,111,110,101,59,46,99,111,110,101,59,46,64,99,110,97,116,46,115,117,99,99,59,46,64,99,110,97,116,46,115,117,99,99,59,46,99,110,97,116,46,122,101,114,111,59,46] 0=true:=by
 have ho:((.app (.app (.app (.const [101,113] [[43,122]]) (.const [110,97,116] [])) (.app (.app (.const [97,100,100] []) (.const [111,110,101] [])) (.const [111,110,101] []))) (.app (.const [110,97,116,46,115,117,99,99] []) (.app (.const [110,97,116,46,115,117,99,99] []) (.const [110,97,116,46,122,101,114,111] [])))):Tm).Ok:=by simp[Tm.Ok,zD,zY]<;>decide
 have hb:((.app (.app (.app (.const [101,113] [[43,122]]) (.const [110,97,116] [])) (.app (.app (.const [97,100,100] []) (.const [111,110,101] [])) (.const [111,110,101] []))) (.app (.const [110,97,116,46,115,117,99,99] []) (.app (.const [110,97,116,46,115,117,99,99] []) (.const [110,97,116,46,122,101,114,111] [])))):Tm).bytes=[64,64,64,99,101,113,59,43,122,44,46,99,110,97,116,59,46,64,64,99,97,100,100,59,46,99,111,110,101,59,46,99,111,110,101,59,46,64,99,110,97,116,46,115,117,99,99,59,46,64,99,110,97,116,46,115,117,99,99,59,46,99,110,97,116,46,122,101,114,111,59,46]:=by simp[Tm.bytes,Tm.targ,Tm.doms,Tm.cnames,Tm.opn,Tm.params,yH,Lib.decDigits_one,zC,xJ,zD,zY]
 have hn:((.app (.app (.app (.const [101,113] [[43,122]]) (.const [110,97,116] [])) (.app (.app (.const [97,100,100] []) (.const [111,110,101] [])) (.const [111,110,101] []))) (.app (.const [110,97,116,46,115,117,99,99] []) (.app (.const [110,97,116,46,115,117,99,99] []) (.const [110,97,116,46,122,101,114,111] [])))):Tm).opn=0:=by decide
 have hp:((((.app (.app (.app (.const [101,113] [[43,122]]) (.const [110,97,116] [])) (.app (.app (.const [97,100,100] []) (.const [111,110,101] [])) (.const [111,110,101] []))) (.app (.const [110,97,116,46,115,117,99,99] []) (.app (.const [110,97,116,46,115,117,99,99] []) (.const [110,97,116,46,122,101,114,111] [])))):Tm).params:Nat):Int)<=0:=by simp[Tm.bytes,Tm.targ,Tm.doms,Tm.cnames,Tm.opn,Tm.params,yH,Lib.decDigits_one,zC,xJ,zD,zY]<;>decide
 have h:=yJ (p:=0) ho (by rw[hb];decide) hn hp;rw[hb] at h;exact h
theorem xC5:zH [64,64,99,101,113,46,114,101,102,108,59,43,122,44,46,99,110,97,116,59,46,64,99,110,97,116,46,115,117,99,99,59,46,99,111,110,101,59,46] 0=true:=by
 have ho:((.app (.app (.const [101,113,46,114,101,102,108] [[43,122]]) (.const [110,97,116] [])) (.app (.const [110,97,116,46,115,117,99,99] []) (.const [111,110,101] []))):Tm).Ok:=by simp[Tm.Ok,zD,zY]<;>decide
 have hb:((.app (.app (.const [101,113,46,114,101,102,108] [[43,122]]) (.const [110,97,116] [])) (.app (.const [110,97,116,46,115,117,99,99] []) (.const [111,110,101] []))):Tm).bytes=[64,64,99,101,113,46,114,101,102,108,59,43,122,44,46,99,110,97,116,59,46,64,99,110,97,116,46,115,117,99,99,59,46,99,111,110,101,59,46]:=by simp[Tm.bytes,Tm.targ,Tm.doms,Tm.cnames,Tm.opn,Tm.params,yH,Lib.decDigits_one,zC,xJ,zD,zY]
 have hn:((.app (.app (.const [101,113,46,114,101,102,108] [[43,122]]) (.const [110,97,116] [])) (.app (.const [110,97,116,46,115,117,99,99] []) (.const [111,110,101] []))):Tm).opn=0:=by decide
 have hp:((((.app (.app (.const [101,113,46,114,101,102,108] [[43,122]]) (.const [110,97,116] [])) (.app (.const [110,97,116,46,115,117,99,99] []) (.const [111,110,101] []))):Tm).params:Nat):Int)<=0:=by simp[Tm.bytes,Tm.targ,Tm.doms,Tm.cnames,Tm.opn,Tm.params,yH,Lib.decDigits_one,zC,xJ,zD,zY]<;>decide
 have h:=yJ (p:=0) ho (by rw[hb];decide) hn hp;rw[hb] at h;exact h
theorem xJ5:zJ xJ6=true:=by
 have h0:zI [116,119,111,46,111,107]=true:=by decide
 show (zI [116,119,111,46,111,107]&&((decide ((0:Int)<=0)&&decide ((0:Int)<=3))&&((decide ((0:Int)<=0)&&decide ((0:Int)<=7))&&(zH [64,64,64,99,101,113,59,43,122,44,46,99,110,97,116,59,46,64,64,99,97,100,100,59,46,99,111,110,101,59,46,99,111,110,101,59,46,64,99,110,97,116,46,115,117,99,99,59,46,64,99,110,97,116,46,115,117,99,99,59,46,99,110,97,116,46,122,101,114,111,59,46] 0&&zQ xJ6))))=true;rw[h0,xD3];have hk:zQ xJ6=true:=by
  show (if (3:Int)=1 then _ else if (3:Int)=2\/(3:Int)=3 then decide ((0:Int)<=1)&&(zH [64,64,99,101,113,46,114,101,102,108,59,43,122,44,46,99,110,97,116,59,46,64,99,110,97,116,46,115,117,99,99,59,46,99,111,110,101,59,46] 0&&decide (([]:List Ct).length=0)) else _)=true;rw[iN (by decide),iP (by decide),xC5]
  decide
 rw[hk]
 decide
theorem xD2:zH [112,115,122,46,118,48,46] 0=true:=by
 have ho:((.pi (.sort [122]) (.var 0)):Tm).Ok:=by simp[Tm.Ok,zD,zY]<;>decide
 have hb:((.pi (.sort [122]) (.var 0)):Tm).bytes=[112,115,122,46,118,48,46]:=by simp[Tm.bytes,Tm.targ,Tm.doms,Tm.cnames,Tm.opn,Tm.params,yH,Lib.decDigits_one,zC,xJ,zD,zY]
 have hn:((.pi (.sort [122]) (.var 0)):Tm).opn=0:=by decide
 have hp:((((.pi (.sort [122]) (.var 0)):Tm).params:Nat):Int)<=0:=by simp[Tm.bytes,Tm.targ,Tm.doms,Tm.cnames,Tm.opn,Tm.params,yH,Lib.decDigits_one,zC,xJ,zD,zY]<;>decide
 have h:=yJ (p:=0) ho (by rw[hb];decide) hn hp;rw[hb] at h;exact h
theorem xJ3:zJ xJ4=true:=by
 have h0:zI [101,109]=true:=by decide
 show (zI [101,109]&&((decide ((0:Int)<=0)&&decide ((0:Int)<=3))&&((decide ((0:Int)<=0)&&decide ((0:Int)<=7))&&(zH [112,115,122,46,118,48,46] 0&&zQ xJ4))))=true;rw[h0,xD2];simp[zQ,xJ4]
theorem xD1:zH [64,64,64,99,101,113,59,43,122,44,46,99,110,97,116,59,46,99,111,110,101,59,46,99,110,97,116,46,122,101,114,111,59,46] 0=true:=by
 have ho:((.app (.app (.app (.const [101,113] [[43,122]]) (.const [110,97,116] [])) (.const [111,110,101] [])) (.const [110,97,116,46,122,101,114,111] [])):Tm).Ok:=by simp[Tm.Ok,zD,zY]<;>decide
 have hb:((.app (.app (.app (.const [101,113] [[43,122]]) (.const [110,97,116] [])) (.const [111,110,101] [])) (.const [110,97,116,46,122,101,114,111] [])):Tm).bytes=[64,64,64,99,101,113,59,43,122,44,46,99,110,97,116,59,46,99,111,110,101,59,46,99,110,97,116,46,122,101,114,111,59,46]:=by simp[Tm.bytes,Tm.targ,Tm.doms,Tm.cnames,Tm.opn,Tm.params,yH,Lib.decDigits_one,zC,xJ,zD,zY]
 have hn:((.app (.app (.app (.const [101,113] [[43,122]]) (.const [110,97,116] [])) (.const [111,110,101] [])) (.const [110,97,116,46,122,101,114,111] [])):Tm).opn=0:=by decide
 have hp:((((.app (.app (.app (.const [101,113] [[43,122]]) (.const [110,97,116] [])) (.const [111,110,101] [])) (.const [110,97,116,46,122,101,114,111] [])):Tm).params:Nat):Int)<=0:=by simp[Tm.bytes,Tm.targ,Tm.doms,Tm.cnames,Tm.opn,Tm.params,yH,Lib.decDigits_one,zC,xJ,zD,zY]<;>decide
 have h:=yJ (p:=0) ho (by rw[hb];decide) hn hp;rw[hb] at h;exact h
theorem xC4:zH [64,99,101,109,59,46,64,64,64,99,101,113,59,43,122,44,46,99,110,97,116,59,46,99,111,110,101,59,46,99,110,97,116,46,122,101,114,111,59,46] 0=true:=by
 have ho:((.app (.const [101,109] []) (.app (.app (.app (.const [101,113] [[43,122]]) (.const [110,97,116] [])) (.const [111,110,101] [])) (.const [110,97,116,46,122,101,114,111] []))):Tm).Ok:=by simp[Tm.Ok,zD,zY]<;>decide
 have hb:((.app (.const [101,109] []) (.app (.app (.app (.const [101,113] [[43,122]]) (.const [110,97,116] [])) (.const [111,110,101] [])) (.const [110,97,116,46,122,101,114,111] []))):Tm).bytes=[64,99,101,109,59,46,64,64,64,99,101,113,59,43,122,44,46,99,110,97,116,59,46,99,111,110,101,59,46,99,110,97,116,46,122,101,114,111,59,46]:=by simp[Tm.bytes,Tm.targ,Tm.doms,Tm.cnames,Tm.opn,Tm.params,yH,Lib.decDigits_one,zC,xJ,zD,zY]
 have hn:((.app (.const [101,109] []) (.app (.app (.app (.const [101,113] [[43,122]]) (.const [110,97,116] [])) (.const [111,110,101] [])) (.const [110,97,116,46,122,101,114,111] []))):Tm).opn=0:=by decide
 have hp:((((.app (.const [101,109] []) (.app (.app (.app (.const [101,113] [[43,122]]) (.const [110,97,116] [])) (.const [111,110,101] [])) (.const [110,97,116,46,122,101,114,111] []))):Tm).params:Nat):Int)<=0:=by simp[Tm.bytes,Tm.targ,Tm.doms,Tm.cnames,Tm.opn,Tm.params,yH,Lib.decDigits_one,zC,xJ,zD,zY]<;>decide
 have h:=yJ (p:=0) ho (by rw[hb];decide) hn hp;rw[hb] at h;exact h
theorem xJ1:zJ xJ2=true:=by
 have h0:zI [98,97,100,46,101,113]=true:=by decide
 show (zI [98,97,100,46,101,113]&&((decide ((0:Int)<=0)&&decide ((0:Int)<=3))&&((decide ((0:Int)<=0)&&decide ((0:Int)<=7))&&(zH [64,64,64,99,101,113,59,43,122,44,46,99,110,97,116,59,46,99,111,110,101,59,46,99,110,97,116,46,122,101,114,111,59,46] 0&&zQ xJ2))))=true;rw[h0,xD1];have hk:zQ xJ2=true:=by
  show (if (3:Int)=1 then _ else if (3:Int)=2\/(3:Int)=3 then decide ((0:Int)<=1)&&(zH [64,99,101,109,59,46,64,64,64,99,101,113,59,43,122,44,46,99,110,97,116,59,46,99,111,110,101,59,46,99,110,97,116,46,122,101,114,111,59,46] 0&&decide (([]:List Ct).length=0)) else _)=true;rw[iN (by decide),iP (by decide),xC4]
  decide
 rw[hk]
 decide
theorem yS2:zH [99,110,97,116,59,46] 0=true:=by
 have ho:((.const [110,97,116] []):Tm).Ok:=by simp[Tm.Ok,zD,zY]<;>decide
 have hb:((.const [110,97,116] []):Tm).bytes=[99,110,97,116,59,46]:=by simp[Tm.bytes,Tm.targ,Tm.doms,Tm.cnames,Tm.opn,Tm.params,yH,Lib.decDigits_one,zC,xJ,zD,zY]
 have hn:((.const [110,97,116] []):Tm).opn=0:=by decide
 have hp:((((.const [110,97,116] []):Tm).params:Nat):Int)<=0:=by simp[Tm.bytes,Tm.targ,Tm.doms,Tm.cnames,Tm.opn,Tm.params,yH,Lib.decDigits_one,zC,xJ,zD,zY]<;>decide
 have h:=yJ (p:=0) ho (by rw[hb];decide) hn hp;rw[hb] at h;exact h
theorem yR8:zH [99,98,111,111,108,46,116,116,59,46] 0=true:=by
 have ho:((.const [98,111,111,108,46,116,116] []):Tm).Ok:=by simp[Tm.Ok,zD,zY]<;>decide
 have hb:((.const [98,111,111,108,46,116,116] []):Tm).bytes=[99,98,111,111,108,46,116,116,59,46]:=by simp[Tm.bytes,Tm.targ,Tm.doms,Tm.cnames,Tm.opn,Tm.params,yH,Lib.decDigits_one,zC,xJ,zD,zY]
 have hn:((.const [98,111,111,108,46,116,116] []):Tm).opn=0:=by decide
 have hp:((((.const [98,111,111,108,46,116,116] []):Tm).params:Nat):Int)<=0:=by simp[Tm.bytes,Tm.targ,Tm.doms,Tm.cnames,Tm.opn,Tm.params,yH,Lib.decDigits_one,zC,xJ,zD,zY]<;>decide
 have h:=yJ (p:=0) ho (by rw[hb];decide) hn hp;rw[hb] at h;exact h
theorem yZ7:zJ zQ6=true:=by
 have h0:zI [109,97,103,105,99]=true:=by decide
 show (zI [109,97,103,105,99]&&((decide ((0:Int)<=0)&&decide ((0:Int)<=3))&&((decide ((0:Int)<=1)&&decide ((1:Int)<=7))&&(zH [99,110,97,116,59,46] 0&&zQ zQ6))))=true;rw[h0,yS2];have hk:zQ zQ6=true:=by
  show (if (2:Int)=1 then _ else if (2:Int)=2\/(2:Int)=3 then decide ((1:Int)<=1)&&(zH [99,98,111,111,108,46,116,116,59,46] 0&&decide (([]:List Ct).length=0)) else _)=true;rw[iN (by decide),iP (by decide),yR8]
  decide
 rw[hk]
 decide
theorem yS0:zH [99,110,97,116,59,46] 0=true:=by
 have ho:((.const [110,97,116] []):Tm).Ok:=by simp[Tm.Ok,zD,zY]<;>decide
 have hb:((.const [110,97,116] []):Tm).bytes=[99,110,97,116,59,46]:=by simp[Tm.bytes,Tm.targ,Tm.doms,Tm.cnames,Tm.opn,Tm.params,yH,Lib.decDigits_one,zC,xJ,zD,zY]
 have hn:((.const [110,97,116] []):Tm).opn=0:=by decide
 have hp:((((.const [110,97,116] []):Tm).params:Nat):Int)<=0:=by simp[Tm.bytes,Tm.targ,Tm.doms,Tm.cnames,Tm.opn,Tm.params,yH,Lib.decDigits_one,zC,xJ,zD,zY]<;>decide
 have h:=yJ (p:=0) ho (by rw[hb];decide) hn hp;rw[hb] at h;exact h
theorem yR7:zH [116,99,110,97,116,59,46,99,111,110,101,59,46,64,64,99,97,100,100,59,46,118,48,46,64,64,99,97,100,100,59,46,118,48,46,118,48,46] 0=true:=by
 have ho:((.lett (.const [110,97,116] []) (.const [111,110,101] []) (.app (.app (.const [97,100,100] []) (.var 0)) (.app (.app (.const [97,100,100] []) (.var 0)) (.var 0)))):Tm).Ok:=by simp[Tm.Ok,zD,zY]<;>decide
 have hb:((.lett (.const [110,97,116] []) (.const [111,110,101] []) (.app (.app (.const [97,100,100] []) (.var 0)) (.app (.app (.const [97,100,100] []) (.var 0)) (.var 0)))):Tm).bytes=[116,99,110,97,116,59,46,99,111,110,101,59,46,64,64,99,97,100,100,59,46,118,48,46,64,64,99,97,100,100,59,46,118,48,46,118,48,46]:=by simp[Tm.bytes,Tm.targ,Tm.doms,Tm.cnames,Tm.opn,Tm.params,yH,Lib.decDigits_one,zC,xJ,zD,zY]
 have hn:((.lett (.const [110,97,116] []) (.const [111,110,101] []) (.app (.app (.const [97,100,100] []) (.var 0)) (.app (.app (.const [97,100,100] []) (.var 0)) (.var 0)))):Tm).opn=0:=by decide
 have hp:((((.lett (.const [110,97,116] []) (.const [111,110,101] []) (.app (.app (.const [97,100,100] []) (.var 0)) (.app (.app (.const [97,100,100] []) (.var 0)) (.var 0)))):Tm).params:Nat):Int)<=0:=by simp[Tm.bytes,Tm.targ,Tm.doms,Tm.cnames,Tm.opn,Tm.params,yH,Lib.decDigits_one,zC,xJ,zD,zY]<;>decide
 have h:=yJ (p:=0) ho (by rw[hb];decide) hn hp;rw[hb] at h;exact h
theorem yZ2:zJ zQ5=true:=by
 have h0:zI [116,104,114,101,101]=true:=by decide
 show (zI [116,104,114,101,101]&&((decide ((0:Int)<=0)&&decide ((0:Int)<=3))&&((decide ((0:Int)<=0)&&decide ((0:Int)<=7))&&(zH [99,110,97,116,59,46] 0&&zQ zQ5))))=true;rw[h0,yS0];have hk:zQ zQ5=true:=by
  show (if (2:Int)=1 then _ else if (2:Int)=2\/(2:Int)=3 then decide ((0:Int)<=1)&&(zH [116,99,110,97,116,59,46,99,111,110,101,59,46,64,64,99,97,100,100,59,46,118,48,46,64,64,99,97,100,100,59,46,118,48,46,118,48,46] 0&&decide (([]:List Ct).length=0)) else _)=true;rw[iN (by decide),iP (by decide),yR7]
  decide
 rw[hk]
 decide
theorem yR9:zH [64,64,64,99,101,113,59,43,122,44,46,112,99,110,97,116,59,46,99,110,97,116,59,46,99,110,97,116,46,115,117,99,99,59,46,108,99,110,97,116,59,46,64,99,110,97,116,46,115,117,99,99,59,46,118,48,46] 0=true:=by
 have ho:((.app (.app (.app (.const [101,113] [[43,122]]) (.pi (.const [110,97,116] []) (.const [110,97,116] []))) (.const [110,97,116,46,115,117,99,99] [])) (.lam (.const [110,97,116] []) (.app (.const [110,97,116,46,115,117,99,99] []) (.var 0)))):Tm).Ok:=by simp[Tm.Ok,zD,zY]<;>decide
 have hb:((.app (.app (.app (.const [101,113] [[43,122]]) (.pi (.const [110,97,116] []) (.const [110,97,116] []))) (.const [110,97,116,46,115,117,99,99] [])) (.lam (.const [110,97,116] []) (.app (.const [110,97,116,46,115,117,99,99] []) (.var 0)))):Tm).bytes=[64,64,64,99,101,113,59,43,122,44,46,112,99,110,97,116,59,46,99,110,97,116,59,46,99,110,97,116,46,115,117,99,99,59,46,108,99,110,97,116,59,46,64,99,110,97,116,46,115,117,99,99,59,46,118,48,46]:=by simp[Tm.bytes,Tm.targ,Tm.doms,Tm.cnames,Tm.opn,Tm.params,yH,Lib.decDigits_one,zC,xJ,zD,zY]
 have hn:((.app (.app (.app (.const [101,113] [[43,122]]) (.pi (.const [110,97,116] []) (.const [110,97,116] []))) (.const [110,97,116,46,115,117,99,99] [])) (.lam (.const [110,97,116] []) (.app (.const [110,97,116,46,115,117,99,99] []) (.var 0)))):Tm).opn=0:=by decide
 have hp:((((.app (.app (.app (.const [101,113] [[43,122]]) (.pi (.const [110,97,116] []) (.const [110,97,116] []))) (.const [110,97,116,46,115,117,99,99] [])) (.lam (.const [110,97,116] []) (.app (.const [110,97,116,46,115,117,99,99] []) (.var 0)))):Tm).params:Nat):Int)<=0:=by simp[Tm.bytes,Tm.targ,Tm.doms,Tm.cnames,Tm.opn,Tm.params,yH,Lib.decDigits_one,zC,xJ,zD,zY]<;>decide
 have h:=yJ (p:=0) ho (by rw[hb];decide) hn hp;rw[hb] at h;exact h
theorem yR6:zH [64,64,99,101,113,46,114,101,102,108,59,43,122,44,46,112,99,110,97,116,59,46,99,110,97,116,59,46,99,110,97,116,46,115,117,99,99,59,46] 0=true:=by
 have ho:((.app (.app (.const [101,113,46,114,101,102,108] [[43,122]]) (.pi (.const [110,97,116] []) (.const [110,97,116] []))) (.const [110,97,116,46,115,117,99,99] [])):Tm).Ok:=by simp[Tm.Ok,zD,zY]<;>decide
 have hb:((.app (.app (.const [101,113,46,114,101,102,108] [[43,122]]) (.pi (.const [110,97,116] []) (.const [110,97,116] []))) (.const [110,97,116,46,115,117,99,99] [])):Tm).bytes=[64,64,99,101,113,46,114,101,102,108,59,43,122,44,46,112,99,110,97,116,59,46,99,110,97,116,59,46,99,110,97,116,46,115,117,99,99,59,46]:=by simp[Tm.bytes,Tm.targ,Tm.doms,Tm.cnames,Tm.opn,Tm.params,yH,Lib.decDigits_one,zC,xJ,zD,zY]
 have hn:((.app (.app (.const [101,113,46,114,101,102,108] [[43,122]]) (.pi (.const [110,97,116] []) (.const [110,97,116] []))) (.const [110,97,116,46,115,117,99,99] [])):Tm).opn=0:=by decide
 have hp:((((.app (.app (.const [101,113,46,114,101,102,108] [[43,122]]) (.pi (.const [110,97,116] []) (.const [110,97,116] []))) (.const [110,97,116,46,115,117,99,99] [])):Tm).params:Nat):Int)<=0:=by simp[Tm.bytes,Tm.targ,Tm.doms,Tm.cnames,Tm.opn,Tm.params,yH,Lib.decDigits_one,zC,xJ,zD,zY]<;>decide
 have h:=yJ (p:=0) ho (by rw[hb];decide) hn hp;rw[hb] at h;exact h
theorem yZ0:zJ zQ4=true:=by
 have h0:zI [101,116,97,46,111,107]=true:=by decide
 show (zI [101,116,97,46,111,107]&&((decide ((0:Int)<=0)&&decide ((0:Int)<=3))&&((decide ((0:Int)<=0)&&decide ((0:Int)<=7))&&(zH [64,64,64,99,101,113,59,43,122,44,46,112,99,110,97,116,59,46,99,110,97,116,59,46,99,110,97,116,46,115,117,99,99,59,46,108,99,110,97,116,59,46,64,99,110,97,116,46,115,117,99,99,59,46,118,48,46] 0&&zQ zQ4))))=true;rw[h0,yR9];have hk:zQ zQ4=true:=by
  show (if (3:Int)=1 then _ else if (3:Int)=2\/(3:Int)=3 then decide ((0:Int)<=1)&&(zH [64,64,99,101,113,46,114,101,102,108,59,43,122,44,46,112,99,110,97,116,59,46,99,110,97,116,59,46,99,110,97,116,46,115,117,99,99,59,46] 0&&decide (([]:List Ct).length=0)) else _)=true;rw[iN (by decide),iP (by decide),yR6]
  decide
 rw[hk]
 decide
theorem lib0_ok:zJ lib0=true:=(show lib0=qB from rfl) ▸ mP.decl
theorem xJ0:zJ lib9=true:=(show lib9=tL from rfl) ▸ pS.decl
theorem yZ5:zJ yD4=true:=(show yD4=tK from rfl) ▸ pQ.decl
theorem yZ4:zJ yD3=true:=(show yD3=nV from rfl) ▸ oZ.decl
theorem yZ3:zJ yD2=true:=(show yD2=mE from rfl) ▸ jG.decl
theorem yZ1:zJ yD1=true:=(show yD1=xU from rfl) ▸ jF.decl
theorem yS1:zH [115,43,122,46] 0=true:=by
 have ho:((.sort [43,122]):Tm).Ok:=by simp[Tm.Ok,zD,zY]<;>decide
 have hb:((.sort [43,122]):Tm).bytes=[115,43,122,46]:=by simp[Tm.bytes,Tm.targ,Tm.doms,Tm.cnames,Tm.opn,Tm.params,yH,Lib.decDigits_one,zC,xJ,zD,zY]
 have hn:((.sort [43,122]):Tm).opn=0:=by decide
 have hp:((((.sort [43,122]):Tm).params:Nat):Int)<=0:=by simp[Tm.bytes,Tm.targ,Tm.doms,Tm.cnames,Tm.opn,Tm.params,yH,Lib.decDigits_one,zC,xJ,zD,zY]<;>decide
 have h:=yJ (p:=0) ho (by rw[hb];decide) hn hp;rw[hb] at h;exact h
theorem yS3:zH [112,112,99,99,117,114,114,121,59,46,99,110,97,116,59,46,99,99,117,114,114,121,59,46] 0=true:=by
 have ho:((.pi (.pi (.const [99,117,114,114,121] []) (.const [110,97,116] [])) (.const [99,117,114,114,121] [])):Tm).Ok:=by simp[Tm.Ok,zD,zY]<;>decide
 have hb:((.pi (.pi (.const [99,117,114,114,121] []) (.const [110,97,116] [])) (.const [99,117,114,114,121] [])):Tm).bytes=[112,112,99,99,117,114,114,121,59,46,99,110,97,116,59,46,99,99,117,114,114,121,59,46]:=by simp[Tm.bytes,Tm.targ,Tm.doms,Tm.cnames,Tm.opn,Tm.params,yH,Lib.decDigits_one,zC,xJ,zD,zY]
 have hn:((.pi (.pi (.const [99,117,114,114,121] []) (.const [110,97,116] [])) (.const [99,117,114,114,121] [])):Tm).opn=0:=by decide
 have hp:((((.pi (.pi (.const [99,117,114,114,121] []) (.const [110,97,116] [])) (.const [99,117,114,114,121] [])):Tm).params:Nat):Int)<=0:=by simp[Tm.bytes,Tm.targ,Tm.doms,Tm.cnames,Tm.opn,Tm.params,yH,Lib.decDigits_one,zC,xJ,zD,zY]<;>decide
 have h:=yJ (p:=0) ho (by rw[hb];decide) hn hp;rw[hb] at h;exact h
theorem yZ6:zJ sP=true:=by
 have hok:(Tm.sort [43,122]).Ok:=by simp[Tm.Ok,zD,zY]<;>decide
 have hk:xA [115,43,122,46]=[115]:=by
  rw[show [115,43,122,46]=(Tm.sort [43,122]).bytes from rfl,xA,yF,xE hok (by decide)];rfl
 have hcs:yQ [99,117,114,114,121] 0 [([99,117,114,114,121,46,109,107],[112,112,99,99,117,114,114,121,59,46,99,110,97,116,59,46,99,99,117,114,114,121,59,46])] 1=true:=by
  simp only[yQ,decide_eq_true_eq];intro i hi _;obtain rfl:i=0:=(by simp at hi;omega);refine⟨?_,fun j hj=>by omega⟩;show oM [99,117,114,114,121] 0 ([99,117,114,114,121,46,109,107],[112,112,99,99,117,114,114,121,59,46,99,110,97,116,59,46,99,99,117,114,114,121,59,46])=true;simp only[oM,jZ,Bool.and_eq_true,decide_eq_true_eq];exact⟨by decide,by decide,by decide,yS3⟩
 have hd:xV sP=true:=by
  show (decide (Int.tmod 4 2=0)&&(decide (([]:List UInt8)=[])&&(decide ((0:Int)<3)&&(decide (xA [115,43,122,46]=[115])&&(decide (1<=6)&&((zI [99,117,114,114,121]&&zI ([99,117,114,114,121]++46::sD))&&yQ [99,117,114,114,121] 0 [([99,117,114,114,121,46,109,107],[112,112,99,99,117,114,114,121,59,46,99,110,97,116,59,46,99,99,117,114,114,121,59,46])] 1))))))=true;rw[hk,hcs]
  decide
 show (zI [99,117,114,114,121]&&((decide ((0:Int)<=0)&&decide ((0:Int)<=3))&&((decide ((0:Int)<=4)&&decide ((4:Int)<=7))&&(zH [115,43,122,46] 0&&zQ sP))))=true;have hkk:zQ sP=true:=by
  show (if (4:Int)=1 then _ else if (4:Int)=2\/(4:Int)=3 then _ else if (4:Int)=4 then xV sP else false)=true;rw[iN (by decide),iN (by decide),iP (by decide),hd]
 rw[yS1,hkk]
 decide
theorem yN1{i:Nat}(hi:i<18):zJ (pK i)=true:=by
 have e:i=0\/i=1\/i=2\/i=3\/i=4\/i=5\/i=6\/i=7\/i=8\/i=9\/i=10\/i=11\/i=12\/i=13\/i=14\/i=15\/i=16\/i=17:=by omega
 rcases e with rfl|rfl|rfl|rfl|rfl|rfl|rfl|rfl|rfl|rfl|rfl|rfl|rfl|rfl|rfl|rfl|rfl|rfl
 ·exact lib0_ok
 ·exact lib1_ok
 ·exact lib2_ok
 ·exact lib3_ok
 ·exact lib4_ok
 ·exact xJ7
 ·exact xJ5
 ·exact xJ3
 ·exact xJ1
 ·exact xJ0
 ·exact yZ7
 ·exact yZ6
 ·exact yZ5
 ·exact yZ4
 ·exact yZ3
 ·exact yZ2
 ·exact yZ1
 ·exact yZ0
end Go.Proofs.YtgppcegcpiaocaaGreatDoor
