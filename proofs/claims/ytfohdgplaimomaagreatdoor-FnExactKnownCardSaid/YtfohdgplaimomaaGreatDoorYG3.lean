/- TOkS TOpen TOpenS GSp1 TKindS -/
import Derived.Test.YtfohdgplaimomaaGreatDoorYA5
import Derived.Test.YtfohdgplaimomaaGreatDoorYF1
import Derived.Test.YtfohdgplaimomaaGreatDoorYG1
import Derived.Test.YtfohdgplaimomaaGreatDoorYA1
set_option maxRecDepth 100000
set_option maxHeartbeats 16000000
set_option linter.unusedSimpArgs false
set_option linter.unusedVariables false
namespace Go.Proofs.YtfohdgplaimomaaGreatDoor
open Go.ChangeShapes Go.WideShapes Go.ChangeAt Go.RowKit
theorem specTermOk (s:ByteArray) (w:World) (hs:s.size≤maxLen) :
  Calls Tryz.prog 103 #[.string s] w fun e w'=>e=.returned (.bool (termOk s.data.toList))∧Below w.heap.size w w':=by
 have f1:=Ld (specL06All s w hs)
 go_enter Tryz.func103,Tryz.ntmps103
 go_wp2_with fail
 (with_reducible refine f1.out.mono ?_);rintro e w1 ⟨v,ns,rfl,hr,hb,_,(⟨t,ht,hn,hp⟩ | ⟨hno,rfl⟩)⟩
 ·obtain ⟨la,lc,rfl⟩:=own_sliceN hr
  have hsz:=t.size_pos
  have HE:Hid (termOk s.data.toList=true):=by rw [Hid,termOk,termOf_some ht];rfl
  have d1:decide ((0:Int) < (ns.length:Int))=true:=decide_eq_true (by omega)
  have d1n:decide (0 < ns.length)=true:=decide_eq_true (by omega)
  have HB:=Ld hb
  clear hr ht hn hp hb f1
  go_wp2
  go_ret
  rw [HE.out]
  exact ⟨rfl,HB.out⟩
 ·obtain ⟨la,lc,rfl⟩:=own_sliceN hr
  have HE:Hid (termOk s.data.toList=false):=by rw [Hid,termOk,termOf_none hno];rfl
  have HB:=Ld hb
  clear hr hno hb f1
  go_wp2
  go_ret
  rw [HE.out]
  exact ⟨rfl,HB.out⟩
theorem specL06Open {ns:List Nd} (hn:ns.length≤100000) (hsl:∀ nd∈ns,∃ a n c,nd.lv=.slice a n c) {b B:Nat}:∀ (t:Tm) (k:Nat) (W:World) (v:Value),W.ownsRow b 96 7 v ns.length (flatN ns)→Rep W B ns k t→t.Ok →
  Calls Tryz.prog 156 #[v,.int .i64 (k:Int)] W fun e w'=>e=.returned (.int .i64 (t.opn:Int))∧Below W.heap.size W w':=by
 have hklt:∀ (k:Nat) nd,ns[k]?=some nd→k < ns.length:=fun k nd h=>by
  by_cases hl:k < ns.length
  ·exact hl
  ·rw [List.getElem?_eq_none (by omega)] at h;cases h
 intro t
 induction t with
 | var n =>
  intro k W v hrow hr hok
  obtain ⟨nd,hnd,HK⟩:=hr
  obtain ⟨sa,sn,sc,hlv⟩:=hsl nd (List.mem_of_getElem? hnd)
  have hlt:=hklt k nd hnd
  obtain ⟨g,cap,rfl,_,hgl⟩:=hrow.form (by omega)
  have c0:W.cell? ⟨g,k*7,none⟩=some (.int .u8 (nd.kind.toNat:Int)):=node_at hrow hnd 0 (by decide)
  have c1:W.cell? ⟨g,k*7+1,none⟩=some (.int .i64 (nd.a:Int)):=node_at hrow hnd 1 (by decide)
  have c2:W.cell? ⟨g,k*7+2,none⟩=some (.int .i64 (nd.b:Int)):=node_at hrow hnd 2 (by decide)
  have c3:W.cell? ⟨g,k*7+3,none⟩=some (.int .i64 (nd.c:Int)):=node_at hrow hnd 3 (by decide)
  have c4:W.cell? ⟨g,k*7+4,none⟩=some (.int .i64 (nd.num:Int)):=node_at hrow hnd 4 (by decide)
  have c5:W.cell? ⟨g,k*7+5,none⟩=some (.string ⟨nd.text.toArray⟩):=node_at hrow hnd 5 (by decide)
  have c6:W.cell? ⟨g,k*7+6,none⟩=some (.slice sa sn sc):=by rw [← hlv];exact node_at hrow hnd 6 (by decide)
  have q1:(0:Int)≤(k:Int):=by omega
  have q2:(k:Int) < (ns.length:Int):=by omega
  have hkind:nd.kind=118:=HK.1
  have hnum:nd.num=n:=HK.2.1
  have hn9:n≤999:=hok
  rw [hkind] at c0
  rw [hnum] at c4
  clear hrow hnd HK hkind hnum hlv hsl hklt
  go_enter Tryz.func156,Tryz.ntmps156
  go_wp2
  go_ret
  refine ⟨?_,(Below.refl _ _).alloc (Nat.le_refl _) _⟩
  simp [Tm.opn]
 | sort l =>
  intro k W v hrow hr hok
  obtain ⟨nd,hnd,HK⟩:=hr
  obtain ⟨sa,sn,sc,hlv⟩:=hsl nd (List.mem_of_getElem? hnd)
  have hlt:=hklt k nd hnd
  obtain ⟨g,cap,rfl,_,hgl⟩:=hrow.form (by omega)
  have c0:W.cell? ⟨g,k*7,none⟩=some (.int .u8 (nd.kind.toNat:Int)):=node_at hrow hnd 0 (by decide)
  have c1:W.cell? ⟨g,k*7+1,none⟩=some (.int .i64 (nd.a:Int)):=node_at hrow hnd 1 (by decide)
  have c2:W.cell? ⟨g,k*7+2,none⟩=some (.int .i64 (nd.b:Int)):=node_at hrow hnd 2 (by decide)
  have c3:W.cell? ⟨g,k*7+3,none⟩=some (.int .i64 (nd.c:Int)):=node_at hrow hnd 3 (by decide)
  have c4:W.cell? ⟨g,k*7+4,none⟩=some (.int .i64 (nd.num:Int)):=node_at hrow hnd 4 (by decide)
  have c5:W.cell? ⟨g,k*7+5,none⟩=some (.string ⟨nd.text.toArray⟩):=node_at hrow hnd 5 (by decide)
  have c6:W.cell? ⟨g,k*7+6,none⟩=some (.slice sa sn sc):=by rw [← hlv];exact node_at hrow hnd 6 (by decide)
  have q1:(0:Int)≤(k:Int):=by omega
  have q2:(k:Int) < (ns.length:Int):=by omega
  have hkind:nd.kind=115:=HK.1
  rw [hkind] at c0
  clear hrow hnd HK hkind hlv hsl hklt
  go_enter Tryz.func156,Tryz.ntmps156
  go_wp2
  go_ret
  exact ⟨rfl,(Below.refl _ _).alloc (Nat.le_refl _) _⟩
 | const n ls =>
  intro k W v hrow hr hok
  obtain ⟨nd,hnd,HK⟩:=hr
  obtain ⟨sa,sn,sc,hlv⟩:=hsl nd (List.mem_of_getElem? hnd)
  have hlt:=hklt k nd hnd
  obtain ⟨g,cap,rfl,_,hgl⟩:=hrow.form (by omega)
  have c0:W.cell? ⟨g,k*7,none⟩=some (.int .u8 (nd.kind.toNat:Int)):=node_at hrow hnd 0 (by decide)
  have c1:W.cell? ⟨g,k*7+1,none⟩=some (.int .i64 (nd.a:Int)):=node_at hrow hnd 1 (by decide)
  have c2:W.cell? ⟨g,k*7+2,none⟩=some (.int .i64 (nd.b:Int)):=node_at hrow hnd 2 (by decide)
  have c3:W.cell? ⟨g,k*7+3,none⟩=some (.int .i64 (nd.c:Int)):=node_at hrow hnd 3 (by decide)
  have c4:W.cell? ⟨g,k*7+4,none⟩=some (.int .i64 (nd.num:Int)):=node_at hrow hnd 4 (by decide)
  have c5:W.cell? ⟨g,k*7+5,none⟩=some (.string ⟨nd.text.toArray⟩):=node_at hrow hnd 5 (by decide)
  have c6:W.cell? ⟨g,k*7+6,none⟩=some (.slice sa sn sc):=by rw [← hlv];exact node_at hrow hnd 6 (by decide)
  have q1:(0:Int)≤(k:Int):=by omega
  have q2:(k:Int) < (ns.length:Int):=by omega
  have hkind:nd.kind=99:=HK.1
  rw [hkind] at c0
  clear hrow hnd HK hkind hlv hsl hklt
  go_enter Tryz.func156,Tryz.ntmps156
  go_wp2
  go_ret
  exact ⟨rfl,(Below.refl _ _).alloc (Nat.le_refl _) _⟩
 | app f a ihf iha =>
  intro k W v hrow hr hok
  obtain ⟨nd,hnd,HK⟩:=hr
  obtain ⟨sa,sn,sc,hlv⟩:=hsl nd (List.mem_of_getElem? hnd)
  have hlt:=hklt k nd hnd
  obtain ⟨g,cap,rfl,_,hgl⟩:=hrow.form (by omega)
  have c0:W.cell? ⟨g,k*7,none⟩=some (.int .u8 (nd.kind.toNat:Int)):=node_at hrow hnd 0 (by decide)
  have c1:W.cell? ⟨g,k*7+1,none⟩=some (.int .i64 (nd.a:Int)):=node_at hrow hnd 1 (by decide)
  have c2:W.cell? ⟨g,k*7+2,none⟩=some (.int .i64 (nd.b:Int)):=node_at hrow hnd 2 (by decide)
  have c3:W.cell? ⟨g,k*7+3,none⟩=some (.int .i64 (nd.c:Int)):=node_at hrow hnd 3 (by decide)
  have c4:W.cell? ⟨g,k*7+4,none⟩=some (.int .i64 (nd.num:Int)):=node_at hrow hnd 4 (by decide)
  have c5:W.cell? ⟨g,k*7+5,none⟩=some (.string ⟨nd.text.toArray⟩):=node_at hrow hnd 5 (by decide)
  have c6:W.cell? ⟨g,k*7+6,none⟩=some (.slice sa sn sc):=by rw [← hlv];exact node_at hrow hnd 6 (by decide)
  have q1:(0:Int)≤(k:Int):=by omega
  have q2:(k:Int) < (ns.length:Int):=by omega
  obtain ⟨hkind,hr1,hr2⟩:=HK
  rw [hkind] at c0
  have b1:=(Below.refl W.heap.size W).alloc (Nat.le_refl _) (.cells #[.int .u8 64,.int .i64 (nd.a:Int),.int .i64 (nd.b:Int),.int .i64 (nd.c:Int),.int .i64 (nd.num:Int),.string ⟨nd.text.toArray⟩,.slice sa sn sc] 96)
  have hblk:(W.alloc (.cells #[.int .u8 64,.int .i64 (nd.a:Int),.int .i64 (nd.b:Int),.int .i64 (nd.c:Int),.int .i64 (nd.num:Int),.string ⟨nd.text.toArray⟩,.slice sa sn sc] 96)).heap[W.heap.size]?=some (.cells #[.int .u8 64,.int .i64 (nd.a:Int),.int .i64 (nd.b:Int),.int .i64 (nd.c:Int),.int .i64 (nd.num:Int),.string ⟨nd.text.toArray⟩,.slice sa sn sc] 96 (0,0)):=heap_alloc_new W _
  have hrow1:=own_below hrow b1
  have ks1:KeepS B W (W.alloc (.cells #[.int .u8 64,.int .i64 (nd.a:Int),.int .i64 (nd.b:Int),.int .i64 (nd.c:Int),.int .i64 (nd.num:Int),.string ⟨nd.text.toArray⟩,.slice sa sn sc] 96)):=fun _ _ _ h=>own_below h b1
  have z1:W.heap.size < (W.alloc (.cells #[.int .u8 64,.int .i64 (nd.a:Int),.int .i64 (nd.b:Int),.int .i64 (nd.c:Int),.int .i64 (nd.num:Int),.string ⟨nd.text.toArray⟩,.slice sa sn sc] 96)).heap.size:=by simp
  have B1:=Ld b1
  have f1:=Ld (ihf nd.a _ _ hrow1 (Rep.keep ks1 (Ext.refl _) f _ hr1) hok.1)
  have xb:=Tm.opn_le f hok.1
  have yb:=Tm.opn_le a hok.2
  have HE:Hid ((Tm.app f a).opn=max f.opn a.opn):=rfl
  generalize f.opn=x at f1 xb HE
  clear hnd hkind hlv b1 ks1 hrow hr1
  go_enter Tryz.func156,Tryz.ntmps156
  go_wp2_with fail
  (with_reducible refine f1.out.mono ?_);rintro e W2 ⟨rfl,hb2⟩
  have hblk2:=(hb2.block _ z1).trans hblk
  have hrow2:=own_below hrow1 hb2
  have B2:=Ld (B1.out.trans (hb2.mono (Nat.le_of_lt z1)))
  have z2:W.heap.size < W2.heap.size:=Nat.lt_of_lt_of_le z1 hb2.size
  have f2:=Ld (iha nd.b _ _ hrow2 (Rep.keep (fun _ _ _ h=>own_below h B2.out) (Ext.refl _) a _ hr2) hok.2)
  generalize a.opn=y at f2 yb HE
  have a0:W2.cell? ⟨W.heap.size,0,none⟩=some (.int .u8 64):=cell_of_row _ _ _ _ _ _ hblk2
  have a1:W2.cell? ⟨W.heap.size,1,none⟩=some (.int .i64 (nd.a:Int)):=cell_of_row _ _ _ _ _ _ hblk2
  have a2:W2.cell? ⟨W.heap.size,2,none⟩=some (.int .i64 (nd.b:Int)):=cell_of_row _ _ _ _ _ _ hblk2
  clear f1 hb2 hrow1 hblk hr2 z1
  go_wp2_with fail
  (with_reducible refine f2.out.mono ?_);rintro e W3 ⟨rfl,hb3⟩
  have hblk3:=(hb3.block _ z2).trans hblk2
  have B3:=Ld (B2.out.trans (hb3.mono (Nat.le_of_lt z2)))
  have d0:W3.cell? ⟨W.heap.size,0,none⟩=some (.int .u8 64):=cell_of_row _ _ _ _ _ _ hblk3
  have d3:W3.cell? ⟨W.heap.size,3,none⟩=some (.int .i64 (nd.c:Int)):=cell_of_row _ _ _ _ _ _ hblk3
  have dz:decide ((x:Int) < 0)=false:=decide_eq_false (by omega)
  have dz2:decide ((y:Int) < 0)=false:=decide_eq_false (by omega)
  clear f2 hb3 hrow2 hblk2 hblk3 a0 a1 a2
  by_cases hxy:x < y
  ·have e1:decide ((x:Int) < (y:Int))=true:=decide_eq_true (by omega)
   have e1n:decide (x < y)=true:=decide_eq_true (by omega)
   go_wp2
   go_ret
   rw [HE.out,Nat.max_eq_right (by omega)]
   exact ⟨rfl,B3.out⟩
  ·have e1:decide ((x:Int) < (y:Int))=false:=decide_eq_false (by omega)
   have e1n:decide (x < y)=false:=decide_eq_false (by omega)
   go_wp2
   go_ret
   rw [HE.out,Nat.max_eq_left (by omega)]
   exact ⟨rfl,B3.out⟩
 | lam f a ihf iha =>
  intro k W v hrow hr hok
  obtain ⟨nd,hnd,HK⟩:=hr
  obtain ⟨sa,sn,sc,hlv⟩:=hsl nd (List.mem_of_getElem? hnd)
  have hlt:=hklt k nd hnd
  obtain ⟨g,cap,rfl,_,hgl⟩:=hrow.form (by omega)
  have c0:W.cell? ⟨g,k*7,none⟩=some (.int .u8 (nd.kind.toNat:Int)):=node_at hrow hnd 0 (by decide)
  have c1:W.cell? ⟨g,k*7+1,none⟩=some (.int .i64 (nd.a:Int)):=node_at hrow hnd 1 (by decide)
  have c2:W.cell? ⟨g,k*7+2,none⟩=some (.int .i64 (nd.b:Int)):=node_at hrow hnd 2 (by decide)
  have c3:W.cell? ⟨g,k*7+3,none⟩=some (.int .i64 (nd.c:Int)):=node_at hrow hnd 3 (by decide)
  have c4:W.cell? ⟨g,k*7+4,none⟩=some (.int .i64 (nd.num:Int)):=node_at hrow hnd 4 (by decide)
  have c5:W.cell? ⟨g,k*7+5,none⟩=some (.string ⟨nd.text.toArray⟩):=node_at hrow hnd 5 (by decide)
  have c6:W.cell? ⟨g,k*7+6,none⟩=some (.slice sa sn sc):=by rw [← hlv];exact node_at hrow hnd 6 (by decide)
  have q1:(0:Int)≤(k:Int):=by omega
  have q2:(k:Int) < (ns.length:Int):=by omega
  obtain ⟨hkind,hr1,hr2⟩:=HK
  rw [hkind] at c0
  have b1:=(Below.refl W.heap.size W).alloc (Nat.le_refl _) (.cells #[.int .u8 108,.int .i64 (nd.a:Int),.int .i64 (nd.b:Int),.int .i64 (nd.c:Int),.int .i64 (nd.num:Int),.string ⟨nd.text.toArray⟩,.slice sa sn sc] 96)
  have hblk:(W.alloc (.cells #[.int .u8 108,.int .i64 (nd.a:Int),.int .i64 (nd.b:Int),.int .i64 (nd.c:Int),.int .i64 (nd.num:Int),.string ⟨nd.text.toArray⟩,.slice sa sn sc] 96)).heap[W.heap.size]?=some (.cells #[.int .u8 108,.int .i64 (nd.a:Int),.int .i64 (nd.b:Int),.int .i64 (nd.c:Int),.int .i64 (nd.num:Int),.string ⟨nd.text.toArray⟩,.slice sa sn sc] 96 (0,0)):=heap_alloc_new W _
  have hrow1:=own_below hrow b1
  have ks1:KeepS B W (W.alloc (.cells #[.int .u8 108,.int .i64 (nd.a:Int),.int .i64 (nd.b:Int),.int .i64 (nd.c:Int),.int .i64 (nd.num:Int),.string ⟨nd.text.toArray⟩,.slice sa sn sc] 96)):=fun _ _ _ h=>own_below h b1
  have z1:W.heap.size < (W.alloc (.cells #[.int .u8 108,.int .i64 (nd.a:Int),.int .i64 (nd.b:Int),.int .i64 (nd.c:Int),.int .i64 (nd.num:Int),.string ⟨nd.text.toArray⟩,.slice sa sn sc] 96)).heap.size:=by simp
  have B1:=Ld b1
  have f1:=Ld (ihf nd.a _ _ hrow1 (Rep.keep ks1 (Ext.refl _) f _ hr1) hok.1)
  have xb:=Tm.opn_le f hok.1
  have yb:=Tm.opn_le a hok.2
  have HE:Hid ((Tm.lam f a).opn=max f.opn (a.opn - 1)):=rfl
  generalize f.opn=x at f1 xb HE
  clear hnd hkind hlv b1 ks1 hrow hr1
  go_enter Tryz.func156,Tryz.ntmps156
  go_wp2_with fail
  (with_reducible refine f1.out.mono ?_);rintro e W2 ⟨rfl,hb2⟩
  have hblk2:=(hb2.block _ z1).trans hblk
  have hrow2:=own_below hrow1 hb2
  have B2:=Ld (B1.out.trans (hb2.mono (Nat.le_of_lt z1)))
  have z2:W.heap.size < W2.heap.size:=Nat.lt_of_lt_of_le z1 hb2.size
  have f2:=Ld (iha nd.b _ _ hrow2 (Rep.keep (fun _ _ _ h=>own_below h B2.out) (Ext.refl _) a _ hr2) hok.2)
  generalize a.opn=y at f2 yb HE
  have a0:W2.cell? ⟨W.heap.size,0,none⟩=some (.int .u8 108):=cell_of_row _ _ _ _ _ _ hblk2
  have a1:W2.cell? ⟨W.heap.size,1,none⟩=some (.int .i64 (nd.a:Int)):=cell_of_row _ _ _ _ _ _ hblk2
  have a2:W2.cell? ⟨W.heap.size,2,none⟩=some (.int .i64 (nd.b:Int)):=cell_of_row _ _ _ _ _ _ hblk2
  clear f1 hb2 hrow1 hblk hr2 z1
  go_wp2_with fail
  (with_reducible refine f2.out.mono ?_);rintro e W3 ⟨rfl,hb3⟩
  have hblk3:=(hb3.block _ z2).trans hblk2
  have B3:=Ld (B2.out.trans (hb3.mono (Nat.le_of_lt z2)))
  have d0:W3.cell? ⟨W.heap.size,0,none⟩=some (.int .u8 108):=cell_of_row _ _ _ _ _ _ hblk3
  have d3:W3.cell? ⟨W.heap.size,3,none⟩=some (.int .i64 (nd.c:Int)):=cell_of_row _ _ _ _ _ _ hblk3
  have dz:decide ((x:Int) < 0)=false:=decide_eq_false (by omega)
  have dz2:decide ((y:Int) - 1 < 0)=true∨decide ((y:Int) - 1 < 0)=false:=by cases decide ((y:Int) - 1 < 0)<;>simp
  clear f2 hb3 hrow2 hblk2 hblk3 a0 a1 a2
  by_cases hxy:x+1 < y
  ·have e1:decide ((x:Int) < (y:Int) - 1)=true:=decide_eq_true (by omega)
   have e2:decide ((y:Int) - 1 < 0)=false:=decide_eq_false (by omega)
   clear dz2
   go_wp2
   go_ret
   rw [HE.out,Nat.max_eq_right (by omega)]
   exact ⟨by rw [show ((y - 1:Nat):Int)=(y:Int) - 1 by omega];rfl,B3.out⟩
  ·have e1:decide ((x:Int) < (y:Int) - 1)=false:=decide_eq_false (by omega)
   clear dz2
   go_wp2
   go_ret
   rw [HE.out,Nat.max_eq_left (by omega)]
   exact ⟨rfl,B3.out⟩
 | pi f a ihf iha =>
  intro k W v hrow hr hok
  obtain ⟨nd,hnd,HK⟩:=hr
  obtain ⟨sa,sn,sc,hlv⟩:=hsl nd (List.mem_of_getElem? hnd)
  have hlt:=hklt k nd hnd
  obtain ⟨g,cap,rfl,_,hgl⟩:=hrow.form (by omega)
  have c0:W.cell? ⟨g,k*7,none⟩=some (.int .u8 (nd.kind.toNat:Int)):=node_at hrow hnd 0 (by decide)
  have c1:W.cell? ⟨g,k*7+1,none⟩=some (.int .i64 (nd.a:Int)):=node_at hrow hnd 1 (by decide)
  have c2:W.cell? ⟨g,k*7+2,none⟩=some (.int .i64 (nd.b:Int)):=node_at hrow hnd 2 (by decide)
  have c3:W.cell? ⟨g,k*7+3,none⟩=some (.int .i64 (nd.c:Int)):=node_at hrow hnd 3 (by decide)
  have c4:W.cell? ⟨g,k*7+4,none⟩=some (.int .i64 (nd.num:Int)):=node_at hrow hnd 4 (by decide)
  have c5:W.cell? ⟨g,k*7+5,none⟩=some (.string ⟨nd.text.toArray⟩):=node_at hrow hnd 5 (by decide)
  have c6:W.cell? ⟨g,k*7+6,none⟩=some (.slice sa sn sc):=by rw [← hlv];exact node_at hrow hnd 6 (by decide)
  have q1:(0:Int)≤(k:Int):=by omega
  have q2:(k:Int) < (ns.length:Int):=by omega
  obtain ⟨hkind,hr1,hr2⟩:=HK
  rw [hkind] at c0
  have b1:=(Below.refl W.heap.size W).alloc (Nat.le_refl _) (.cells #[.int .u8 112,.int .i64 (nd.a:Int),.int .i64 (nd.b:Int),.int .i64 (nd.c:Int),.int .i64 (nd.num:Int),.string ⟨nd.text.toArray⟩,.slice sa sn sc] 96)
  have hblk:(W.alloc (.cells #[.int .u8 112,.int .i64 (nd.a:Int),.int .i64 (nd.b:Int),.int .i64 (nd.c:Int),.int .i64 (nd.num:Int),.string ⟨nd.text.toArray⟩,.slice sa sn sc] 96)).heap[W.heap.size]?=some (.cells #[.int .u8 112,.int .i64 (nd.a:Int),.int .i64 (nd.b:Int),.int .i64 (nd.c:Int),.int .i64 (nd.num:Int),.string ⟨nd.text.toArray⟩,.slice sa sn sc] 96 (0,0)):=heap_alloc_new W _
  have hrow1:=own_below hrow b1
  have ks1:KeepS B W (W.alloc (.cells #[.int .u8 112,.int .i64 (nd.a:Int),.int .i64 (nd.b:Int),.int .i64 (nd.c:Int),.int .i64 (nd.num:Int),.string ⟨nd.text.toArray⟩,.slice sa sn sc] 96)):=fun _ _ _ h=>own_below h b1
  have z1:W.heap.size < (W.alloc (.cells #[.int .u8 112,.int .i64 (nd.a:Int),.int .i64 (nd.b:Int),.int .i64 (nd.c:Int),.int .i64 (nd.num:Int),.string ⟨nd.text.toArray⟩,.slice sa sn sc] 96)).heap.size:=by simp
  have B1:=Ld b1
  have f1:=Ld (ihf nd.a _ _ hrow1 (Rep.keep ks1 (Ext.refl _) f _ hr1) hok.1)
  have xb:=Tm.opn_le f hok.1
  have yb:=Tm.opn_le a hok.2
  have HE:Hid ((Tm.pi f a).opn=max f.opn (a.opn - 1)):=rfl
  generalize f.opn=x at f1 xb HE
  clear hnd hkind hlv b1 ks1 hrow hr1
  go_enter Tryz.func156,Tryz.ntmps156
  go_wp2_with fail
  (with_reducible refine f1.out.mono ?_);rintro e W2 ⟨rfl,hb2⟩
  have hblk2:=(hb2.block _ z1).trans hblk
  have hrow2:=own_below hrow1 hb2
  have B2:=Ld (B1.out.trans (hb2.mono (Nat.le_of_lt z1)))
  have z2:W.heap.size < W2.heap.size:=Nat.lt_of_lt_of_le z1 hb2.size
  have f2:=Ld (iha nd.b _ _ hrow2 (Rep.keep (fun _ _ _ h=>own_below h B2.out) (Ext.refl _) a _ hr2) hok.2)
  generalize a.opn=y at f2 yb HE
  have a0:W2.cell? ⟨W.heap.size,0,none⟩=some (.int .u8 112):=cell_of_row _ _ _ _ _ _ hblk2
  have a1:W2.cell? ⟨W.heap.size,1,none⟩=some (.int .i64 (nd.a:Int)):=cell_of_row _ _ _ _ _ _ hblk2
  have a2:W2.cell? ⟨W.heap.size,2,none⟩=some (.int .i64 (nd.b:Int)):=cell_of_row _ _ _ _ _ _ hblk2
  clear f1 hb2 hrow1 hblk hr2 z1
  go_wp2_with fail
  (with_reducible refine f2.out.mono ?_);rintro e W3 ⟨rfl,hb3⟩
  have hblk3:=(hb3.block _ z2).trans hblk2
  have B3:=Ld (B2.out.trans (hb3.mono (Nat.le_of_lt z2)))
  have d0:W3.cell? ⟨W.heap.size,0,none⟩=some (.int .u8 112):=cell_of_row _ _ _ _ _ _ hblk3
  have d3:W3.cell? ⟨W.heap.size,3,none⟩=some (.int .i64 (nd.c:Int)):=cell_of_row _ _ _ _ _ _ hblk3
  have dz:decide ((x:Int) < 0)=false:=decide_eq_false (by omega)
  have dz2:decide ((y:Int) - 1 < 0)=true∨decide ((y:Int) - 1 < 0)=false:=by cases decide ((y:Int) - 1 < 0)<;>simp
  clear f2 hb3 hrow2 hblk2 hblk3 a0 a1 a2
  by_cases hxy:x+1 < y
  ·have e1:decide ((x:Int) < (y:Int) - 1)=true:=decide_eq_true (by omega)
   have e2:decide ((y:Int) - 1 < 0)=false:=decide_eq_false (by omega)
   clear dz2
   go_wp2
   go_ret
   rw [HE.out,Nat.max_eq_right (by omega)]
   exact ⟨by rw [show ((y - 1:Nat):Int)=(y:Int) - 1 by omega];rfl,B3.out⟩
  ·have e1:decide ((x:Int) < (y:Int) - 1)=false:=decide_eq_false (by omega)
   clear dz2
   go_wp2
   go_ret
   rw [HE.out,Nat.max_eq_left (by omega)]
   exact ⟨rfl,B3.out⟩
 | lett f a c ihf iha ihc =>
  intro k W v hrow hr hok
  obtain ⟨nd,hnd,HK⟩:=hr
  obtain ⟨sa,sn,sc,hlv⟩:=hsl nd (List.mem_of_getElem? hnd)
  have hlt:=hklt k nd hnd
  obtain ⟨g,cap,rfl,_,hgl⟩:=hrow.form (by omega)
  have c0:W.cell? ⟨g,k*7,none⟩=some (.int .u8 (nd.kind.toNat:Int)):=node_at hrow hnd 0 (by decide)
  have c1:W.cell? ⟨g,k*7+1,none⟩=some (.int .i64 (nd.a:Int)):=node_at hrow hnd 1 (by decide)
  have c2:W.cell? ⟨g,k*7+2,none⟩=some (.int .i64 (nd.b:Int)):=node_at hrow hnd 2 (by decide)
  have c3:W.cell? ⟨g,k*7+3,none⟩=some (.int .i64 (nd.c:Int)):=node_at hrow hnd 3 (by decide)
  have c4:W.cell? ⟨g,k*7+4,none⟩=some (.int .i64 (nd.num:Int)):=node_at hrow hnd 4 (by decide)
  have c5:W.cell? ⟨g,k*7+5,none⟩=some (.string ⟨nd.text.toArray⟩):=node_at hrow hnd 5 (by decide)
  have c6:W.cell? ⟨g,k*7+6,none⟩=some (.slice sa sn sc):=by rw [← hlv];exact node_at hrow hnd 6 (by decide)
  have q1:(0:Int)≤(k:Int):=by omega
  have q2:(k:Int) < (ns.length:Int):=by omega
  obtain ⟨hkind,hr1,hr2,hr3⟩:=HK
  rw [hkind] at c0
  have b1:=(Below.refl W.heap.size W).alloc (Nat.le_refl _) (.cells #[.int .u8 116,.int .i64 (nd.a:Int),.int .i64 (nd.b:Int),.int .i64 (nd.c:Int),.int .i64 (nd.num:Int),.string ⟨nd.text.toArray⟩,.slice sa sn sc] 96)
  have hblk:(W.alloc (.cells #[.int .u8 116,.int .i64 (nd.a:Int),.int .i64 (nd.b:Int),.int .i64 (nd.c:Int),.int .i64 (nd.num:Int),.string ⟨nd.text.toArray⟩,.slice sa sn sc] 96)).heap[W.heap.size]?=some (.cells #[.int .u8 116,.int .i64 (nd.a:Int),.int .i64 (nd.b:Int),.int .i64 (nd.c:Int),.int .i64 (nd.num:Int),.string ⟨nd.text.toArray⟩,.slice sa sn sc] 96 (0,0)):=heap_alloc_new W _
  have hrow1:=own_below hrow b1
  have ks1:KeepS B W (W.alloc (.cells #[.int .u8 116,.int .i64 (nd.a:Int),.int .i64 (nd.b:Int),.int .i64 (nd.c:Int),.int .i64 (nd.num:Int),.string ⟨nd.text.toArray⟩,.slice sa sn sc] 96)):=fun _ _ _ h=>own_below h b1
  have z1:W.heap.size < (W.alloc (.cells #[.int .u8 116,.int .i64 (nd.a:Int),.int .i64 (nd.b:Int),.int .i64 (nd.c:Int),.int .i64 (nd.num:Int),.string ⟨nd.text.toArray⟩,.slice sa sn sc] 96)).heap.size:=by simp
  have B1:=Ld b1
  have f1:=Ld (ihf nd.a _ _ hrow1 (Rep.keep ks1 (Ext.refl _) f _ hr1) hok.1)
  have xb:=Tm.opn_le f hok.1
  have yb:=Tm.opn_le a hok.2.1
  have HE:Hid ((Tm.lett f a c).opn=max (max f.opn a.opn) (c.opn - 1)):=rfl
  generalize f.opn=x at f1 xb HE
  have zb:=Tm.opn_le c hok.2.2
  clear hnd hkind hlv b1 ks1 hrow hr1
  go_enter Tryz.func156,Tryz.ntmps156
  go_wp2_with fail
  (with_reducible refine f1.out.mono ?_);rintro e W2 ⟨rfl,hb2⟩
  have hblk2:=(hb2.block _ z1).trans hblk
  have hrow2:=own_below hrow1 hb2
  have B2:=Ld (B1.out.trans (hb2.mono (Nat.le_of_lt z1)))
  have z2:W.heap.size < W2.heap.size:=Nat.lt_of_lt_of_le z1 hb2.size
  have f2:=Ld (iha nd.b _ _ hrow2 (Rep.keep (fun _ _ _ h=>own_below h B2.out) (Ext.refl _) a _ hr2) hok.2.1)
  generalize a.opn=y at f2 yb HE
  have a0:W2.cell? ⟨W.heap.size,0,none⟩=some (.int .u8 116):=cell_of_row _ _ _ _ _ _ hblk2
  have a1:W2.cell? ⟨W.heap.size,1,none⟩=some (.int .i64 (nd.a:Int)):=cell_of_row _ _ _ _ _ _ hblk2
  have a2:W2.cell? ⟨W.heap.size,2,none⟩=some (.int .i64 (nd.b:Int)):=cell_of_row _ _ _ _ _ _ hblk2
  clear f1 hb2 hrow1 hblk hr2 z1
  go_wp2_with fail
  (with_reducible refine f2.out.mono ?_);rintro e W3 ⟨rfl,hb3⟩
  have hblk3:=(hb3.block _ z2).trans hblk2
  have B3:=Ld (B2.out.trans (hb3.mono (Nat.le_of_lt z2)))
  have d0:W3.cell? ⟨W.heap.size,0,none⟩=some (.int .u8 116):=cell_of_row _ _ _ _ _ _ hblk3
  have d3:W3.cell? ⟨W.heap.size,3,none⟩=some (.int .i64 (nd.c:Int)):=cell_of_row _ _ _ _ _ _ hblk3
  have hrow3:=own_below hrow2 hb3
  have z3:W.heap.size < W3.heap.size:=Nat.lt_of_lt_of_le z2 hb3.size
  have f3:=Ld (ihc nd.c _ _ hrow3 (Rep.keep (fun _ _ _ h=>own_below h B3.out) (Ext.refl _) c _ hr3) hok.2.2)
  generalize c.opn=z at f3 zb HE
  clear f2 hb3 hrow2 hblk2 a0 a1 a2 hr3
  go_wp2_with fail
  (with_reducible refine f3.out.mono ?_);rintro e W4 ⟨rfl,hb4⟩
  have hblk4:=(hb4.block _ z3).trans hblk3
  have B4:=Ld (B3.out.trans (hb4.mono (Nat.le_of_lt z3)))
  have g0:W4.cell? ⟨W.heap.size,0,none⟩=some (.int .u8 116):=cell_of_row _ _ _ _ _ _ hblk4
  clear f3 hb4 hrow3 hblk3 hblk4 d0 d3
  by_cases hxy:x < y
  ·have e1:decide ((x:Int) < (y:Int))=true:=decide_eq_true (by omega)
   have e1n:decide (x < y)=true:=decide_eq_true (by omega)
   by_cases hz:y+1 < z
   ·have e2:decide ((y:Int) < (z:Int) - 1)=true:=decide_eq_true (by omega)
    go_wp2
    go_ret
    rw [HE.out,Nat.max_eq_right (by omega)]
    exact ⟨by rw [show ((z - 1:Nat):Int)=(z:Int) - 1 by omega];rfl,B4.out⟩
   ·have e2:decide ((y:Int) < (z:Int) - 1)=false:=decide_eq_false (by omega)
    go_wp2
    go_ret
    rw [HE.out,Nat.max_eq_left (by omega),Nat.max_eq_right (by omega)]
    exact ⟨rfl,B4.out⟩
  ·have e1:decide ((x:Int) < (y:Int))=false:=decide_eq_false (by omega)
   have e1n:decide (x < y)=false:=decide_eq_false (by omega)
   by_cases hz:x+1 < z
   ·have e2:decide ((x:Int) < (z:Int) - 1)=true:=decide_eq_true (by omega)
    go_wp2
    go_ret
    rw [HE.out,Nat.max_eq_right (by omega)]
    exact ⟨by rw [show ((z - 1:Nat):Int)=(z:Int) - 1 by omega];rfl,B4.out⟩
   ·have e2:decide ((x:Int) < (z:Int) - 1)=false:=decide_eq_false (by omega)
    go_wp2
    go_ret
    rw [HE.out,Nat.max_eq_left (by omega),Nat.max_eq_left (by omega)]
    exact ⟨rfl,B4.out⟩
theorem specBroughtIn (n:Nat) (w:World) (h:n≤1000) :
  Calls Tryz.prog 155 #[.int .i64 (n:Int),.int .i64 0,.int .i64 1000] w fun e w'=>e=.returned (.int .i64 (n:Int))∧w'=w:=by
 have d1:decide ((n:Int) < 0)=false:=decide_eq_false (by omega)
 have d2:decide ((1000:Int) < (n:Int))=false:=decide_eq_false (by omega)
 have d2n:decide (1000 < n)=false:=decide_eq_false (by omega)
 go_enter Tryz.func155,Tryz.ntmps155
 go_wp2
 go_ret
 exact ⟨rfl,rfl⟩
theorem specTermOpen (s:ByteArray) (w:World) (hs:s.size≤maxLen) :
  Calls Tryz.prog 104 #[.string s] w fun e w'=>e=.returned (.int .i64 (termOpen s.data.toList:Int))∧Below w.heap.size w w':=by
 have f1:=Ld (specL06All s w hs)
 go_enter Tryz.func104,Tryz.ntmps104
 go_wp2_with fail
 (with_reducible refine f1.out.mono ?_);rintro e w1 ⟨v,ns,rfl,hr,hb,hsl,(⟨t,ht,hn,hp⟩ | ⟨hno,rfl⟩)⟩
 ·have hsz:=t.size_pos
  have hle:=t.size_le
  have h2:=ht.2.2
  rw [← ht.2.1] at h2
  have f2:=Ld (specL06Open (ns:=ns) (by omega) hsl t (ns.length - 1) w1 v hr hp ht.1)
  rw [show ((ns.length - 1:Nat):Int)=(ns.length:Int) - 1 by omega] at f2
  have f3:=Ld fun W=>specBroughtIn t.opn W (Tm.opn_le t ht.1)
  obtain ⟨la,lc,rfl⟩:=own_sliceN hr
  have HE:Hid (termOpen s.data.toList=t.opn):=by rw [Hid,termOpen,termOf_some ht]
  have d1:((ns.length:Int) == 0)=false:=beq_eq_false_iff_ne.2 (by omega)
  have HB:=Ld hb
  generalize t.opn=x at f2 f3 HE
  have hn2:ns.length≤2000:=by omega
  have hn1:1≤ns.length:=by omega
  clear hr ht hp hb f1 hsl hn hle h2
  go_wp2_with fail
  (with_reducible refine f2.out.mono ?_);rintro e w2 ⟨rfl,hb2⟩
  have HB2:=Ld (HB.out.trans (hb2.mono HB.out.size))
  clear hb2
  go_wp2_with fail
  (with_reducible refine (f3.out _).mono ?_);rintro e w3 ⟨rfl,rfl⟩
  go_wp2
  go_ret
  rw [HE.out]
  exact ⟨rfl,HB2.out⟩
 ·obtain ⟨la,lc,rfl⟩:=own_sliceN hr
  have HE:Hid (termOpen s.data.toList=0):=by rw [Hid,termOpen,termOf_none hno]
  have HB:=Ld hb
  clear hr hno hb f1 hsl
  go_wp2
  go_ret
  rw [HE.out]
  exact ⟨rfl,HB.out⟩
theorem specClosed (t:List UInt8) (p:Int) (w:World) (ht:t.length≤maxLen) :
  Calls Tryz.prog 71 #[.string ⟨t.toArray⟩,.int .i64 p] w fun e w'=>e=.returned (.bool (closedOf t p))∧Below w.heap.size w w':=by
 have hz:(⟨t.toArray⟩:ByteArray).size≤maxLen:=by rw [size_sv];exact ht
 have f1:=Ld fun W=>specTermOk ⟨t.toArray⟩ W hz
 have f2:=Ld fun W=>specTermOpen ⟨t.toArray⟩ W hz
 have f3:=Ld fun W=>specParamsIn ⟨t.toArray⟩ W hz
 simp only at f1 f2 f3
 have HE:Hid (closedOf t p=(termOk t && (decide (termOpen t=0) && decide ((paramsIn t:Int)≤p)))):=rfl
 generalize termOk t=a at f1 HE
 generalize termOpen t=b at f2 HE
 generalize paramsIn t=c at f3 HE
 clear ht hz
 cases a
 ·go_enter Tryz.func71,Tryz.ntmps71
  go_wp2_with fail
  (with_reducible refine (f1.out _).mono ?_);rintro e w1 ⟨rfl,hb1⟩
  have HB:=Ld hb1
  clear hb1
  go_wp2
  go_ret
  rw [HE.out]
  exact ⟨rfl,HB.out⟩
 by_cases hb:b=0
 ·subst hb
  have d1:decide ((c:Int)≤p)=true∨decide ((c:Int)≤p)=false:=by cases decide ((c:Int)≤p)<;>simp
  go_enter Tryz.func71,Tryz.ntmps71
  go_wp2_with fail
  (with_reducible refine (f1.out _).mono ?_);rintro e w1 ⟨rfl,hb1⟩
  go_wp2_with fail
  (with_reducible refine (f2.out _).mono ?_);rintro e w2 ⟨rfl,hb2⟩
  go_wp2_with fail
  (with_reducible refine (f3.out _).mono ?_);rintro e w3 ⟨rfl,hb3⟩
  have HB:=Ld ((hb1.trans (hb2.mono hb1.size)).trans (hb3.mono (hb1.trans (hb2.mono hb1.size)).size))
  clear hb1 hb2 hb3 f1 f2 f3
  rcases d1 with d1 | d1
  all_goals
   go_wp2
   go_ret
   rw [HE.out]
   exact ⟨by simp [d1],HB.out⟩
 ·have e1:((b:Int) == 0)=false:=by rw [beq_eq_false_iff_ne];omega
  go_enter Tryz.func71,Tryz.ntmps71
  go_wp2_with fail
  (with_reducible refine (f1.out _).mono ?_);rintro e w1 ⟨rfl,hb1⟩
  go_wp2_with fail
  (with_reducible refine (f2.out _).mono ?_);rintro e w2 ⟨rfl,hb2⟩
  have HB:=Ld (hb1.trans (hb2.mono hb1.size))
  clear hb1 hb2 f1 f2 f3
  go_wp2
  go_ret
  rw [HE.out]
  exact ⟨by simp [hb],HB.out⟩
theorem termOk_len {l:List UInt8} (h:termOk l=true):1≤l.length:=by
 unfold termOk at h
 cases ht:termOf l with
 | none=>rw [ht] at h;cases h
 | some t =>
  have:=(termOf_is ht).2.1
  have:=t.bytes_pos
  rw [← (termOf_is ht).2.1]
  omega
theorem specTermKind (s:ByteArray) (w:World) (hs:s.size≤maxLen) :
  Calls Tryz.prog 107 #[.string s] w fun e w'=>e=.returned (.string ⟨(termKind s.data.toList).toArray⟩)∧Below w.heap.size w w':=by
 have f1:=Ld (specTermOk s w hs)
 have hls:s.data.toList.length=s.size:=rfl
 unfold maxLen at hs
 by_cases h:termOk s.data.toList=true
 ·have h1:=termOk_len h
  rw [hls] at h1
  have HE:Hid ((⟨(termKind s.data.toList).toArray⟩:ByteArray)=s.extract 0 1):=by
   rw [Hid,termKind,if_pos h]
   have:=ext_str s 0 1
   rw [List.drop_zero,Nat.zero_add] at this
   exact this
  rw [h] at f1
  clear h hls
  go_enter Tryz.func107,Tryz.ntmps107
  go_wp2_with fail
  (with_reducible refine f1.out.mono ?_);rintro e w1 ⟨rfl,hb⟩
  go_wp2
  go_ret
  rw [HE.out]
  exact ⟨rfl,hb⟩
 ·have HE:Hid (termKind s.data.toList=[]):=by rw [Hid,termKind,if_neg h]
  rw [Bool.not_eq_true] at h
  rw [h] at f1
  clear h hls
  go_enter Tryz.func107,Tryz.ntmps107
  go_wp2_with fail
  (with_reducible refine f1.out.mono ?_);rintro e w1 ⟨rfl,hb⟩
  go_wp2
  go_ret
  rw [HE.out]
  exact ⟨rfl,hb⟩
end Go.Proofs.YtfohdgplaimomaaGreatDoor
