/- Several texts of this seat in one: CChk. No statement of the seat is proved here. -/
import Derived.Test.YtpkhdihoijkamaaGreatDoorZA06
import Derived.Deep.RegionHeld3
namespace Go.Proofs.YtpkhdihoijkamaaGreatDoor.K
open Go.ChangeShapes Go.WideShapes Go.ChangeAt Go.RowKit Go.Maps
def lg (op:Int):Bool:=op == 1 || op == 2 || op == 3 || op == 4 || op == 5 || op == 6
def ku (op:Int):Bool:=op == 1 || op == 2 || op == 6
def ou (op:Int):Bool:=op == 3 || op == 4 || op == 6
def lh (op:Int):Bool:=op == 7 || op == 8 || op == 9
def pg (op:Int):Bool:=op == 1 || op == 2
def qa (op:Int):Bool:=op == 8 || op == 9
def pu (op:Int):Bool:=op == 9
def strOf:Value→ByteArray
 | .string s=>s
 | _=>⟨#[]⟩
def ui (op:Int):ByteArray:=match kindV op with
 | .agg cs=>strOf (cs.getD 0 undef)
 | _=>⟨#[]⟩
theorem kindV_eq (op:Int):kindV op=kindA (ui op) (lg op) (ku op) (ou op) (lh op) (pg op) (qa op) (pu op):=by
 by_cases h:1≤op∧op≤9
 ·have:op=1∨op=2∨op=3∨op=4∨op=5∨op=6∨op=7∨op=8∨op=9:=by omega
  rcases this with rfl|rfl|rfl|rfl|rfl|rfl|rfl|rfl|rfl <;> rfl
 ·have h0:kindV op=kv0:=by unfold kindV;repeat rw [if_neg (by omega)]
  have e:∀ k:Int,(1≤k∧k≤9)→(op == k)=false:=fun k hk=>by simp;omega
  unfold ui
  rw [h0]
  simp only [lg,ku,ou,lh,pg,qa,pu,e 1 (by decide),e 2 (by decide),e 3 (by decide),e 4 (by decide),e 5 (by decide),e 6 (by decide),e 7 (by decide),e 8 (by decide),e 9 (by decide)]
  rfl
theorem ac2 {W:World} {b:Nat} (h:W.ownsMap Tryz.prog 3 tokE b 9 kd9) (op:Int) (hw:(Lit.int .i64 op).wf=true) :
 (Instr.lookup 94 (.map (some b)) (.int .i64 op) true).run Tryz.prog W=.ok (.tuple #[kindA (ui op) (lg op) (ku op) (ou op) (lh op) (pg op) (qa op) (pu op),.bool (decide (1≤op∧op≤9))]) W:=by
 obtain ⟨v,ps,hrun,hv⟩:=h.look_ok (t:=94) lawI Tryz.underlying94 (kzero _) (zd:=.held kv0) (zp:=[]) rfl (keyOf_int_mk Tryz.underlying3 hw)
 rw [kd_at] at hv
 rw [kd_has] at hrun
 simp only [tokE,Option.some.injEq,Prod.mk.injEq,DataW.held.injEq] at hv
 rw [hrun,hv.1,kindV_eq]
theorem cell_later {w w':World} (hb:Below w.heap.size w w') {p:Addr} {v:Value} (h:w.cell? p=some v):w'.cell? p=some v:=by
 have hp:p.block<w.heap.size:=by
  unfold World.cell? at h
  cases hh:w.heap[p.block]? with
  | none=>simp [hh] at h
  | some o=>exact (Array.getElem?_eq_some_iff.1 hh).1
 rw [hb.cell hp];exact h
theorem cell_alloc {w:World} {o:Obj} {p:Addr} {v:Value} (h:w.cell? p=some v):(w.alloc o).cell? p=some v:=cell_later ((Below.refl _ _).alloc (Nat.le_refl _) _) h
theorem jw {w w':World} {i:Nat} {o:Obj} (hb:Below w.heap.size w w') (h:w.heap[i]? = some o):w'.heap[i]? = some o:=by
 rw [hb.block i (Array.getElem?_eq_some_iff.1 h).1];exact h
theorem kinds_at (B:Nat) (w:World) (hB:w.heap.size=B):Calls Tryz.prog 46 #[] w fun e w'=>e=.returned (.map (some B))∧w'.ownsMap Tryz.prog 3 tokE B 9 kd9∧Below w.heap.size w w':=by
 subst hB;exact kinds_any w
theorem second_block (w:World) (a b:Obj):((w.alloc a).alloc b).drew.heap[w.heap.size+1]? = some b:=by
 have:=heap_alloc_new (w.alloc a) b
 rw [show (w.alloc a).heap.size=w.heap.size+1 by simp] at this
 exact this
theorem first_block (w:World) (a b:Obj):((w.alloc a).alloc b).drew.heap[w.heap.size]? = some a:=by
 have h:=heap_alloc_new w a
 exact jw (w:=w.alloc a) (((Below.refl _ _).alloc (Nat.le_refl _) _).drew) h
theorem below_on (w:World) (a:Obj) {w1:World} (h:Below (w.alloc a).drew.heap.size (w.alloc a).drew w1):Below w.heap.size w w1:=by
 have h0:Below w.heap.size w (w.alloc a).drew:=((Below.refl _ _).alloc (Nat.le_refl _) _).drew
 exact h0.trans (h.mono h0.size)
theorem below_on2 (w:World) (a b:Obj) {w1:World} (h:Below ((w.alloc a).alloc b).drew.heap.size ((w.alloc a).alloc b).drew w1):Below w.heap.size w w1:=by
 have h0:Below w.heap.size w ((w.alloc a).alloc b).drew:=(below2 w a b).drew
 exact h0.trans (h.mono h0.size)
def Z8 (X:World) (M:Nat) (v0 v1 v2 v3 v4 v5 v6 v7:Value):World :=
 (((((((X.setCell ⟨M,0,.none⟩ v0).setCell ⟨M,1,.none⟩ v1).setCell ⟨M,2,.none⟩ v2).setCell ⟨M,3,.none⟩ v3).setCell ⟨M,4,.none⟩ v4).setCell ⟨M,5,.none⟩ v5).setCell ⟨M,6,.none⟩ v6).setCell ⟨M,7,.none⟩ v7
theorem Z8.block {X:World} {M:Nat} {u0 u1 u2 u3 u4 u5 u6 u7:Value} (v0 v1 v2 v3 v4 v5 v6 v7:Value) {T:TypeId} (h:X.heap[M]? = some (.cells #[u0,u1,u2,u3,u4,u5,u6,u7] T (0,0))):(Z8 X M v0 v1 v2 v3 v4 v5 v6 v7).heap[M]? = some (.cells #[v0,v1,v2,v3,v4,v5,v6,v7] T (0,0)):=by
 have h0:(X.setCell ⟨M,0,.none⟩ v0).heap[M]? = some (.cells #[v0,u1,u2,u3,u4,u5,u6,u7] T (0,0)):=by simpa using heap_setCell_same _ M 0 _ T v0 h
 have h1:((X.setCell ⟨M,0,.none⟩ v0).setCell ⟨M,1,.none⟩ v1).heap[M]? = some (.cells #[v0,v1,u2,u3,u4,u5,u6,u7] T (0,0)):=by simpa using heap_setCell_same _ M 1 _ T v1 h0
 have h2:(((X.setCell ⟨M,0,.none⟩ v0).setCell ⟨M,1,.none⟩ v1).setCell ⟨M,2,.none⟩ v2).heap[M]? = some (.cells #[v0,v1,v2,u3,u4,u5,u6,u7] T (0,0)):=by simpa using heap_setCell_same _ M 2 _ T v2 h1
 have h3:((((X.setCell ⟨M,0,.none⟩ v0).setCell ⟨M,1,.none⟩ v1).setCell ⟨M,2,.none⟩ v2).setCell ⟨M,3,.none⟩ v3).heap[M]? = some (.cells #[v0,v1,v2,v3,u4,u5,u6,u7] T (0,0)):=by simpa using heap_setCell_same _ M 3 _ T v3 h2
 have h4:(((((X.setCell ⟨M,0,.none⟩ v0).setCell ⟨M,1,.none⟩ v1).setCell ⟨M,2,.none⟩ v2).setCell ⟨M,3,.none⟩ v3).setCell ⟨M,4,.none⟩ v4).heap[M]? = some (.cells #[v0,v1,v2,v3,v4,u5,u6,u7] T (0,0)):=by simpa using heap_setCell_same _ M 4 _ T v4 h3
 have h5:((((((X.setCell ⟨M,0,.none⟩ v0).setCell ⟨M,1,.none⟩ v1).setCell ⟨M,2,.none⟩ v2).setCell ⟨M,3,.none⟩ v3).setCell ⟨M,4,.none⟩ v4).setCell ⟨M,5,.none⟩ v5).heap[M]? = some (.cells #[v0,v1,v2,v3,v4,v5,u6,u7] T (0,0)):=by simpa using heap_setCell_same _ M 5 _ T v5 h4
 have h6:(((((((X.setCell ⟨M,0,.none⟩ v0).setCell ⟨M,1,.none⟩ v1).setCell ⟨M,2,.none⟩ v2).setCell ⟨M,3,.none⟩ v3).setCell ⟨M,4,.none⟩ v4).setCell ⟨M,5,.none⟩ v5).setCell ⟨M,6,.none⟩ v6).heap[M]? = some (.cells #[v0,v1,v2,v3,v4,v5,v6,u7] T (0,0)):=by simpa using heap_setCell_same _ M 6 _ T v6 h5
 have h7:((((((((X.setCell ⟨M,0,.none⟩ v0).setCell ⟨M,1,.none⟩ v1).setCell ⟨M,2,.none⟩ v2).setCell ⟨M,3,.none⟩ v3).setCell ⟨M,4,.none⟩ v4).setCell ⟨M,5,.none⟩ v5).setCell ⟨M,6,.none⟩ v6).setCell ⟨M,7,.none⟩ v7).heap[M]? = some (.cells #[v0,v1,v2,v3,v4,v5,v6,v7] T (0,0)):=by simpa using heap_setCell_same _ M 7 _ T v7 h6
 exact h7
theorem Z8.other {X:World} {M i:Nat} (v0 v1 v2 v3 v4 v5 v6 v7:Value) (hne:i≠M):(Z8 X M v0 v1 v2 v3 v4 v5 v6 v7).heap[i]? = X.heap[i]? := by
 unfold Z8
 rw [Below.heap_setCell _ _ _ _ hne,Below.heap_setCell _ _ _ _ hne,Below.heap_setCell _ _ _ _ hne,Below.heap_setCell _ _ _ _ hne,Below.heap_setCell _ _ _ _ hne,Below.heap_setCell _ _ _ _ hne,Below.heap_setCell _ _ _ _ hne,Below.heap_setCell _ _ _ _ hne]
theorem Z8.below {w X:World} {M B:Nat} (v0 v1 v2 v3 v4 v5 v6 v7:Value) (h:Below B w X) (hM:B≤M):Below B w (Z8 X M v0 v1 v2 v3 v4 v5 v6 v7) :=
 (((((((h.setCell (by exact hM) _).setCell (by exact hM) _).setCell (by exact hM) _).setCell (by exact hM) _).setCell (by exact hM) _).setCell (by exact hM) _).setCell (by exact hM) _).setCell (by exact hM) _
theorem bq {X:World} {M:Nat} {v0 v1 v2 v3 v4 v5 v6 v7:Value} {T:TypeId} (h:X.heap[M]? = some (.cells #[v0,v1,v2,v3,v4,v5,v6,v7] T (0,0))) :
 (X.cell? ⟨M,0,.none⟩=some v0∧X.cell? ⟨M,1,.none⟩=some v1∧X.cell? ⟨M,2,.none⟩=some v2∧X.cell? ⟨M,3,.none⟩=some v3∧X.cell? ⟨M,4,.none⟩=some v4∧X.cell? ⟨M,5,.none⟩=some v5∧X.cell? ⟨M,6,.none⟩=some v6∧X.cell? ⟨M,7,.none⟩=some v7) ∧
 (X.frozen? ⟨M,0,.none⟩=false∧X.frozen? ⟨M,1,.none⟩=false∧X.frozen? ⟨M,2,.none⟩=false∧X.frozen? ⟨M,3,.none⟩=false∧X.frozen? ⟨M,4,.none⟩=false∧X.frozen? ⟨M,5,.none⟩=false∧X.frozen? ⟨M,6,.none⟩=false∧X.frozen? ⟨M,7,.none⟩=false):=by
 simp [World.cell?,World.frozen?,h]
theorem ry {X:World} {M:Nat} {v0 v1 v2 v3 v4 v5 v6 v7 v8:Value} {T:TypeId} (h:X.heap[M]? = some (.cells #[v0,v1,v2,v3,v4,v5,v6,v7,v8] T (0,0))) :
 (X.cell? ⟨M,0,.none⟩=some v0∧X.cell? ⟨M,1,.none⟩=some v1∧X.cell? ⟨M,2,.none⟩=some v2∧X.cell? ⟨M,3,.none⟩=some v3∧X.cell? ⟨M,4,.none⟩=some v4∧X.cell? ⟨M,5,.none⟩=some v5∧X.cell? ⟨M,6,.none⟩=some v6∧X.cell? ⟨M,7,.none⟩=some v7∧X.cell? ⟨M,8,.none⟩=some v8):=by
 simp [World.cell?,h]
def cmdF (op who key new ty at':Int) (st:Bool) (d wt:ByteArray):Int :=
 if ¬(1≤op∧op≤9) then 2 else if who<1∨4<who then 1 else if qi (lg op) (ku op) (lh op) key new at'≠0 then qi (lg op) (ku op) (lh op) key new at'
 else if xx (ou op) (pg op) (qa op) (pu op) ty st d wt=false then 2 else if 8<d.size∨8<wt.size then 1 else if yf d.data.toList=false∨yf wt.data.toList=false then 2 else 0
theorem cmdF_op {op who key new ty at':Int} {st:Bool} {d wt:ByteArray} (ho:¬(1≤op∧op≤9)):cmdF op who key new ty at' st d wt=2:=by unfold cmdF;rw [if_pos ho]
theorem cmdF_who {op who key new ty at':Int} {st:Bool} {d wt:ByteArray} (ho:1≤op∧op≤9) (hw:who<1∨4<who):cmdF op who key new ty at' st d wt=1:=by unfold cmdF;rw [if_neg (fun h=>h ho),if_pos hw]
theorem cmdF_nums {op who key new ty at':Int} {st:Bool} {d wt:ByteArray} (ho:1≤op∧op≤9) (hw:¬(who<1∨4<who)) (hn:qi (lg op) (ku op) (lh op) key new at'≠0):cmdF op who key new ty at' st d wt=qi (lg op) (ku op) (lh op) key new at':=by unfold cmdF;rw [if_neg (fun h=>h ho),if_neg hw,if_pos hn]
theorem cmdF_shape {op who key new ty at':Int} {st:Bool} {d wt:ByteArray} (ho:1≤op∧op≤9) (hw:¬(who<1∨4<who)) (hn:qi (lg op) (ku op) (lh op) key new at'=0) (hs:xx (ou op) (pg op) (qa op) (pu op) ty st d wt=false):cmdF op who key new ty at' st d wt=2:=by unfold cmdF;rw [if_neg (fun h=>h ho),if_neg hw,if_neg (fun h=>h hn),if_pos hs]
theorem cmdF_size {op who key new ty at':Int} {st:Bool} {d wt:ByteArray} (ho:1≤op∧op≤9) (hw:¬(who<1∨4<who)) (hn:qi (lg op) (ku op) (lh op) key new at'=0) (hs:xx (ou op) (pg op) (qa op) (pu op) ty st d wt=true) (hz:8<d.size∨8<wt.size):cmdF op who key new ty at' st d wt=1:=by unfold cmdF;rw [if_neg (fun h=>h ho),if_neg hw,if_neg (fun h=>h hn),if_neg (by rw [hs];decide),if_pos hz]
theorem cmdF_small {op who key new ty at':Int} {st:Bool} {d wt:ByteArray} (ho:1≤op∧op≤9) (hw:¬(who<1∨4<who)) (hn:qi (lg op) (ku op) (lh op) key new at'=0) (hs:xx (ou op) (pg op) (qa op) (pu op) ty st d wt=true) (hz:¬(8<d.size∨8<wt.size)) (hl:yf d.data.toList=false∨yf wt.data.toList=false):cmdF op who key new ty at' st d wt=2:=by unfold cmdF;rw [if_neg (fun h=>h ho),if_neg hw,if_neg (fun h=>h hn),if_neg (by rw [hs];decide),if_neg hz,if_pos hl]
theorem cmdF_ok {op who key new ty at':Int} {st:Bool} {d wt:ByteArray} (ho:1≤op∧op≤9) (hw:¬(who<1∨4<who)) (hn:qi (lg op) (ku op) (lh op) key new at'=0) (hs:xx (ou op) (pg op) (qa op) (pu op) ty st d wt=true) (hz:¬(8<d.size∨8<wt.size)) (hl:¬(yf d.data.toList=false∨yf wt.data.toList=false)):cmdF op who key new ty at' st d wt=0:=by unfold cmdF;rw [if_neg (fun h=>h ho),if_neg hw,if_neg (fun h=>h hn),if_neg (by rw [hs];decide),if_neg hz,if_neg hl]
theorem joinK {P:World→Nat→Nat→Prop} {F:World→Nat→Prop} {G:Prop} (h1:Hid (∀ w a m,F w a→P w a m)→G) (h2:∀ w a m,F w a→P w a m):G:=h1 h2
set_option maxHeartbeats 4000000 in
set_option maxRecDepth 100000 in
theorem aas (op who key new ty at':Int) (st:Bool) (d wt:ByteArray) (hop:(Lit.int .i64 op).wf=true) (hd:d.size≤9223372036854775807) (hwt:wt.size≤9223372036854775807) (w:World) :
 Calls Tryz.prog 17 #[cmdA op who key new ty at' st d wt] w fun e w'=>e=.returned (ai (cmdF op who key new ty at' st d wt))∧Below w.heap.size w w':=by
 go_enter Tryz.func17,Tryz.ntmps17
 go_wp2_with fail
 refine' joinK (F:=fun W B=>W.heap[B]? = some (.cells #[.string (ui op),.bool (lg op),.bool (ku op),.bool (ou op),.bool (lh op),.bool (pg op),.bool (qa op),.bool (pu op)] 92 (0,0))∧W.heap[w.heap.size]? = some (.cells #[.int .i64 op,.int .i64 who,.int .i64 key,.int .i64 new,.int .i64 ty,.int .i64 at',.bool st,.string d,.string wt] 24)∧Below w.heap.size w W) (h1:=?main) (h2:=?rest)
 case main =>
  intro HJ
  go_region_held3 (fun w'=>w'.cell? ⟨w.heap.size,0,.none⟩=some (.int .i64 op))
   (first|go_keep|exact cell_later (by assumption) (by go_keep)|exact cell_alloc (by assumption)|exact cell_alloc (cell_later (by assumption) (by go_keep)))
   (first
    |(go_at_call 46;refine (kinds_at (w.heap.size+1) _ ?_).mono ?_;(focus (simp;done));rintro e w1 ⟨rfl,hown,hb1⟩;have hl0:=ac2 hown op hop;have hl1:=fun o=>ac2 (hown.alloc o) op hop)
    |(go_at_call 46;refine (kinds_at (w.heap.size+2) _ ?_).mono ?_;(focus (simp;done));rintro e w1 ⟨rfl,hown,hb1⟩;have hl0:=ac2 hown op hop;have hl1:=fun o=>ac2 (hown.alloc o) op hop;have hM:=jw hb1 (i:=w.heap.size+1) (o:=.cells #[.string ⟨#[]⟩,.bool false,.bool false,.bool false,.bool false,.bool false,.bool false,.bool false] 92 (0,0)) (second_block _ _ _);obtain ⟨⟨k0,k1,k2,k3,k4,k5,k6,k7⟩,f0,f1,f2,f3,f4,f5,f6,f7⟩:=bq hM))
  ·have hK:(w1.alloc (.cells #[.string (ui op),.bool (lg op),.bool (ku op),.bool (ou op),.bool (lh op),.bool (pg op),.bool (qa op),.bool (pu op)] 92)).heap[w1.heap.size]? = some (.cells #[.string (ui op),.bool (lg op),.bool (ku op),.bool (ou op),.bool (lh op),.bool (pg op),.bool (qa op),.bool (pu op)] 92 (0,0)):=heap_alloc_new w1 _
   have hC:(w1.alloc (.cells #[.string (ui op),.bool (lg op),.bool (ku op),.bool (ou op),.bool (lh op),.bool (pg op),.bool (qa op),.bool (pu op)] 92)).heap[w.heap.size]? = some (.cells #[.int .i64 op,.int .i64 who,.int .i64 key,.int .i64 new,.int .i64 ty,.int .i64 at',.bool st,.string d,.string wt] 24):=jw ((Below.refl _ _).alloc (Nat.le_refl _) _) (jw hb1 (heap_alloc_new w _))
   have hbw:Below w.heap.size w (w1.alloc (.cells #[.string (ui op),.bool (lg op),.bool (ku op),.bool (ou op),.bool (lh op),.bool (pg op),.bool (qa op),.bool (pu op)] 92)):=(below_on w _ hb1).alloc (by have:=hb1.size;simp at this;omega) _
   clear hown hl0 hl1 hb1
   revert hK hC hbw
   generalize w1.alloc (.cells #[.string (ui op),.bool (lg op),.bool (ku op),.bool (ou op),.bool (lh op),.bool (pg op),.bool (qa op),.bool (pu op)] 92)=W
   generalize w1.heap.size=B
   generalize w.heap.size+1=m
   intro hK hC hbw
   exact HJ.out W B m ⟨hK,hC,hbw⟩
  ·have hK:(w1.alloc (.cells #[.string (ui op),.bool (lg op),.bool (ku op),.bool (ou op),.bool (lh op),.bool (pg op),.bool (qa op),.bool (pu op)] 92)).heap[w1.heap.size]? = some (.cells #[.string (ui op),.bool (lg op),.bool (ku op),.bool (ou op),.bool (lh op),.bool (pg op),.bool (qa op),.bool (pu op)] 92 (0,0)):=heap_alloc_new w1 _
   have hC:(w1.alloc (.cells #[.string (ui op),.bool (lg op),.bool (ku op),.bool (ou op),.bool (lh op),.bool (pg op),.bool (qa op),.bool (pu op)] 92)).heap[w.heap.size]? = some (.cells #[.int .i64 op,.int .i64 who,.int .i64 key,.int .i64 new,.int .i64 ty,.int .i64 at',.bool st,.string d,.string wt] 24):=jw ((Below.refl _ _).alloc (Nat.le_refl _) _) (jw hb1 (heap_alloc_new w _))
   have hbw:Below w.heap.size w (w1.alloc (.cells #[.string (ui op),.bool (lg op),.bool (ku op),.bool (ou op),.bool (lh op),.bool (pg op),.bool (qa op),.bool (pu op)] 92)):=(below_on w _ hb1).alloc (by have:=hb1.size;simp at this;omega) _
   clear hown hl0 hl1 hb1
   revert hK hC hbw
   generalize w1.alloc (.cells #[.string (ui op),.bool (lg op),.bool (ku op),.bool (ou op),.bool (lh op),.bool (pg op),.bool (qa op),.bool (pu op)] 92)=W
   generalize w1.heap.size=B
   generalize w.heap.size+1=m
   intro hK hC hbw
   exact HJ.out W B m ⟨hK,hC,hbw⟩
  ·have hK:=Z8.block (.string (ui op)) (.bool (lg op)) (.bool (ku op)) (.bool (ou op)) (.bool (lh op)) (.bool (pg op)) (.bool (qa op)) (.bool (pu op)) hM
   have hC:(Z8 w1 (w.heap.size+1) (.string (ui op)) (.bool (lg op)) (.bool (ku op)) (.bool (ou op)) (.bool (lh op)) (.bool (pg op)) (.bool (qa op)) (.bool (pu op))).heap[w.heap.size]? = some (.cells #[.int .i64 op,.int .i64 who,.int .i64 key,.int .i64 new,.int .i64 ty,.int .i64 at',.bool st,.string d,.string wt] 24):=(Z8.other (.string (ui op)) (.bool (lg op)) (.bool (ku op)) (.bool (ou op)) (.bool (lh op)) (.bool (pg op)) (.bool (qa op)) (.bool (pu op)) (by omega)).trans (jw hb1 (first_block w _ _))
   have hbw:Below w.heap.size w (Z8 w1 (w.heap.size+1) (.string (ui op)) (.bool (lg op)) (.bool (ku op)) (.bool (ou op)) (.bool (lh op)) (.bool (pg op)) (.bool (qa op)) (.bool (pu op))):=Z8.below (.string (ui op)) (.bool (lg op)) (.bool (ku op)) (.bool (ou op)) (.bool (lh op)) (.bool (pg op)) (.bool (qa op)) (.bool (pu op)) (below_on2 w _ _ hb1) (by omega)
   clear hown hl0 hl1 hb1 hM k0 k1 k2 k3 k4 k5 k6 k7 f0 f1 f2 f3 f4 f5 f6 f7
   revert hK hC hbw
   unfold Z8
   generalize World.setCell _ ⟨w.heap.size+1,7,.none⟩ _=W
   generalize w.heap.size+1=B
   generalize w.heap.size+2=m
   intro hK hC hbw
   exact HJ.out W B m ⟨hK,hC,hbw⟩
 case rest =>
  intro W B m ⟨hK,hC,hbw⟩
  obtain ⟨c0,c1,c2,c3,c4,c5,c6,c7,c8⟩:=ry hC
  obtain ⟨⟨k0,k1,k2,k3,k4,k5,k6,k7⟩,_⟩:=bq hK
  by_cases ho:1≤op∧op≤9
  case neg =>
   have HF:Hid (cmdF op who key new ty at' st d wt=2):=cmdF_op ho
   have ho':(decide (1≤op) && decide (op≤9))=false:=by simp;omega
   clear ho
   go_wp2_with (first
    |(go_at_call 47;refine (zm _ _ _ _ _ _ _ _ _ _ _ _ _ _ _ _ _ _).mono ?_;rintro e w2 ⟨rfl,hb2⟩;have hC2:=jw hb2 hC;have hK2:=jw hb2 hK;have hbw2:=hbw.trans (hb2.mono hbw.size);obtain ⟨a0,a1,a2,a3,a4,a5,a6,a7,a8⟩:=ry hC2;obtain ⟨⟨b0,b1,b2,b3,b4,b5,b6,b7⟩,_⟩:=bq hK2)
    |(go_at_call 48;refine (zn _ _ _ _ _ _ _ _ _ _ _ _ _ _ _ _ _ _).mono ?_;rintro e w3 ⟨rfl,hb3⟩;have hC3:=jw hb3 hC2;have hbw3:=hbw2.trans (hb3.mono hbw2.size);obtain ⟨e0,e1,e2,e3,e4,e5,e6,e7,e8⟩:=ry hC3)
    |(go_at_call 49;refine (zk _ ?_ _).mono ?_;(focus assumption);rintro e w4 ⟨rfl,rfl⟩))
   go_ret
   exact ⟨by rw [HF.out];rfl,hbw⟩
  have ho1:decide (1≤op)=true:=by simp;omega
  have ho2:decide (op≤9)=true:=by simp;omega
  have HO:Hid (1≤op∧op≤9):=ho
  clear ho
  by_cases hw1:who<1
  case pos =>
   have HF:Hid (cmdF op who key new ty at' st d wt=1):=cmdF_who HO.out (.inl hw1)
   go_wp2_with (first
    |(go_at_call 47;refine (zm _ _ _ _ _ _ _ _ _ _ _ _ _ _ _ _ _ _).mono ?_;rintro e w2 ⟨rfl,hb2⟩;have hC2:=jw hb2 hC;have hK2:=jw hb2 hK;have hbw2:=hbw.trans (hb2.mono hbw.size);obtain ⟨a0,a1,a2,a3,a4,a5,a6,a7,a8⟩:=ry hC2;obtain ⟨⟨b0,b1,b2,b3,b4,b5,b6,b7⟩,_⟩:=bq hK2)
    |(go_at_call 48;refine (zn _ _ _ _ _ _ _ _ _ _ _ _ _ _ _ _ _ _).mono ?_;rintro e w3 ⟨rfl,hb3⟩;have hC3:=jw hb3 hC2;have hbw3:=hbw2.trans (hb3.mono hbw2.size);obtain ⟨e0,e1,e2,e3,e4,e5,e6,e7,e8⟩:=ry hC3)
    |(go_at_call 49;refine (zk _ ?_ _).mono ?_;(focus assumption);rintro e w4 ⟨rfl,rfl⟩))
   go_ret
   exact ⟨by rw [HF.out];rfl,hbw⟩
  by_cases hw4:4<who
  case pos =>
   have HF:Hid (cmdF op who key new ty at' st d wt=1):=cmdF_who HO.out (.inr hw4)
   have hw1':decide (who<1)=false:=by simpa using hw1
   go_wp2_with (first
    |(go_at_call 47;refine (zm _ _ _ _ _ _ _ _ _ _ _ _ _ _ _ _ _ _).mono ?_;rintro e w2 ⟨rfl,hb2⟩;have hC2:=jw hb2 hC;have hK2:=jw hb2 hK;have hbw2:=hbw.trans (hb2.mono hbw.size);obtain ⟨a0,a1,a2,a3,a4,a5,a6,a7,a8⟩:=ry hC2;obtain ⟨⟨b0,b1,b2,b3,b4,b5,b6,b7⟩,_⟩:=bq hK2)
    |(go_at_call 48;refine (zn _ _ _ _ _ _ _ _ _ _ _ _ _ _ _ _ _ _).mono ?_;rintro e w3 ⟨rfl,hb3⟩;have hC3:=jw hb3 hC2;have hbw3:=hbw2.trans (hb3.mono hbw2.size);obtain ⟨e0,e1,e2,e3,e4,e5,e6,e7,e8⟩:=ry hC3)
    |(go_at_call 49;refine (zk _ ?_ _).mono ?_;(focus assumption);rintro e w4 ⟨rfl,rfl⟩))
   go_ret
   exact ⟨by rw [HF.out];rfl,hbw⟩
  have HW:Hid (¬(who<1∨4<who)):=by show ¬_;omega
  have hw1':decide (who<1)=false:=by simpa using hw1
  have hw4':decide (4<who)=false:=by simpa using hw4
  by_cases hn:qi (lg op) (ku op) (lh op) key new at'=0
  case neg =>
   have hn':=errV_no hn
   have HF:Hid (ai (cmdF op who key new ty at' st d wt)=.iface 96 (.int .i64 (qi (lg op) (ku op) (lh op) key new at'))):=by show _=_;rw [cmdF_nums HO.out HW.out hn];exact hn'
   clear hn
   go_wp2_with (first
    |(go_at_call 47;refine (zm _ _ _ _ _ _ _ _ _ _ _ _ _ _ _ _ _ _).mono ?_;rintro e w2 ⟨rfl,hb2⟩;have hC2:=jw hb2 hC;have hK2:=jw hb2 hK;have hbw2:=hbw.trans (hb2.mono hbw.size);obtain ⟨a0,a1,a2,a3,a4,a5,a6,a7,a8⟩:=ry hC2;obtain ⟨⟨b0,b1,b2,b3,b4,b5,b6,b7⟩,_⟩:=bq hK2)
    |(go_at_call 48;refine (zn _ _ _ _ _ _ _ _ _ _ _ _ _ _ _ _ _ _).mono ?_;rintro e w3 ⟨rfl,hb3⟩;have hC3:=jw hb3 hC2;have hbw3:=hbw2.trans (hb3.mono hbw2.size);obtain ⟨e0,e1,e2,e3,e4,e5,e6,e7,e8⟩:=ry hC3)
    |(go_at_call 49;refine (zk _ ?_ _).mono ?_;(focus assumption);rintro e w4 ⟨rfl,rfl⟩))
   go_ret
   exact ⟨by rw [HF.out];rfl,hbw2⟩
  have HN:Hid (qi (lg op) (ku op) (lh op) key new at'=0):=hn
  have hn':ai (qi (lg op) (ku op) (lh op) key new at')=.nilIface:=by rw [hn];rfl
  clear hn
  cases hs:xx (ou op) (pg op) (qa op) (pu op) ty st d wt
  case false =>
   have HF:Hid (cmdF op who key new ty at' st d wt=2):=cmdF_shape HO.out HW.out HN.out hs
   go_wp2_with (first
    |(go_at_call 47;refine (zm _ _ _ _ _ _ _ _ _ _ _ _ _ _ _ _ _ _).mono ?_;rintro e w2 ⟨rfl,hb2⟩;have hC2:=jw hb2 hC;have hK2:=jw hb2 hK;have hbw2:=hbw.trans (hb2.mono hbw.size);obtain ⟨a0,a1,a2,a3,a4,a5,a6,a7,a8⟩:=ry hC2;obtain ⟨⟨b0,b1,b2,b3,b4,b5,b6,b7⟩,_⟩:=bq hK2)
    |(go_at_call 48;refine (zn _ _ _ _ _ _ _ _ _ _ _ _ _ _ _ _ _ _).mono ?_;rintro e w3 ⟨rfl,hb3⟩;have hC3:=jw hb3 hC2;have hbw3:=hbw2.trans (hb3.mono hbw2.size);obtain ⟨e0,e1,e2,e3,e4,e5,e6,e7,e8⟩:=ry hC3)
    |(go_at_call 49;refine (zk _ ?_ _).mono ?_;(focus assumption);rintro e w4 ⟨rfl,rfl⟩))
   go_ret
   exact ⟨by rw [HF.out];rfl,hbw3⟩
  by_cases hz1:8<d.size
  case pos =>
   have HF:Hid (cmdF op who key new ty at' st d wt=1):=cmdF_size HO.out HW.out HN.out hs (.inl hz1)
   have hz1':decide ((8:Int)<(d.size:Int))=true:=by simp;omega
   go_wp2_with (first
    |(go_at_call 47;refine (zm _ _ _ _ _ _ _ _ _ _ _ _ _ _ _ _ _ _).mono ?_;rintro e w2 ⟨rfl,hb2⟩;have hC2:=jw hb2 hC;have hK2:=jw hb2 hK;have hbw2:=hbw.trans (hb2.mono hbw.size);obtain ⟨a0,a1,a2,a3,a4,a5,a6,a7,a8⟩:=ry hC2;obtain ⟨⟨b0,b1,b2,b3,b4,b5,b6,b7⟩,_⟩:=bq hK2)
    |(go_at_call 48;refine (zn _ _ _ _ _ _ _ _ _ _ _ _ _ _ _ _ _ _).mono ?_;rintro e w3 ⟨rfl,hb3⟩;have hC3:=jw hb3 hC2;have hbw3:=hbw2.trans (hb3.mono hbw2.size);obtain ⟨e0,e1,e2,e3,e4,e5,e6,e7,e8⟩:=ry hC3)
    |(go_at_call 49;refine (zk _ ?_ _).mono ?_;(focus assumption);rintro e w4 ⟨rfl,rfl⟩))
   go_ret
   exact ⟨by rw [HF.out];rfl,hbw3⟩
  have hz1':decide ((8:Int)<(d.size:Int))=false:=by simp;omega
  by_cases hz2:8<wt.size
  case pos =>
   have HF:Hid (cmdF op who key new ty at' st d wt=1):=cmdF_size HO.out HW.out HN.out hs (.inr hz2)
   have hz2':decide ((8:Int)<(wt.size:Int))=true:=by simp;omega
   go_wp2_with (first
    |(go_at_call 47;refine (zm _ _ _ _ _ _ _ _ _ _ _ _ _ _ _ _ _ _).mono ?_;rintro e w2 ⟨rfl,hb2⟩;have hC2:=jw hb2 hC;have hK2:=jw hb2 hK;have hbw2:=hbw.trans (hb2.mono hbw.size);obtain ⟨a0,a1,a2,a3,a4,a5,a6,a7,a8⟩:=ry hC2;obtain ⟨⟨b0,b1,b2,b3,b4,b5,b6,b7⟩,_⟩:=bq hK2)
    |(go_at_call 48;refine (zn _ _ _ _ _ _ _ _ _ _ _ _ _ _ _ _ _ _).mono ?_;rintro e w3 ⟨rfl,hb3⟩;have hC3:=jw hb3 hC2;have hbw3:=hbw2.trans (hb3.mono hbw2.size);obtain ⟨e0,e1,e2,e3,e4,e5,e6,e7,e8⟩:=ry hC3)
    |(go_at_call 49;refine (zk _ ?_ _).mono ?_;(focus assumption);rintro e w4 ⟨rfl,rfl⟩))
   go_ret
   exact ⟨by rw [HF.out];rfl,hbw3⟩
  have hz2':decide ((8:Int)<(wt.size:Int))=false:=by simp;omega
  have HZ:Hid (¬(8<d.size∨8<wt.size)):=by show ¬_;omega
  cases hl1:yf d.data.toList
  case false =>
   have HF:Hid (cmdF op who key new ty at' st d wt=2):=cmdF_small HO.out HW.out HN.out hs HZ.out (.inl hl1)
   go_wp2_with (first
    |(go_at_call 47;refine (zm _ _ _ _ _ _ _ _ _ _ _ _ _ _ _ _ _ _).mono ?_;rintro e w2 ⟨rfl,hb2⟩;have hC2:=jw hb2 hC;have hK2:=jw hb2 hK;have hbw2:=hbw.trans (hb2.mono hbw.size);obtain ⟨a0,a1,a2,a3,a4,a5,a6,a7,a8⟩:=ry hC2;obtain ⟨⟨b0,b1,b2,b3,b4,b5,b6,b7⟩,_⟩:=bq hK2)
    |(go_at_call 48;refine (zn _ _ _ _ _ _ _ _ _ _ _ _ _ _ _ _ _ _).mono ?_;rintro e w3 ⟨rfl,hb3⟩;have hC3:=jw hb3 hC2;have hbw3:=hbw2.trans (hb3.mono hbw2.size);obtain ⟨e0,e1,e2,e3,e4,e5,e6,e7,e8⟩:=ry hC3)
    |(go_at_call 49;refine (zk _ ?_ _).mono ?_;(focus assumption);rintro e w4 ⟨rfl,rfl⟩))
   go_ret
   exact ⟨by rw [HF.out];rfl,hbw3⟩
  cases hl2:yf wt.data.toList
  case false =>
   have HF:Hid (cmdF op who key new ty at' st d wt=2):=cmdF_small HO.out HW.out HN.out hs HZ.out (.inr hl2)
   go_wp2_with (first
    |(go_at_call 47;refine (zm _ _ _ _ _ _ _ _ _ _ _ _ _ _ _ _ _ _).mono ?_;rintro e w2 ⟨rfl,hb2⟩;have hC2:=jw hb2 hC;have hK2:=jw hb2 hK;have hbw2:=hbw.trans (hb2.mono hbw.size);obtain ⟨a0,a1,a2,a3,a4,a5,a6,a7,a8⟩:=ry hC2;obtain ⟨⟨b0,b1,b2,b3,b4,b5,b6,b7⟩,_⟩:=bq hK2)
    |(go_at_call 48;refine (zn _ _ _ _ _ _ _ _ _ _ _ _ _ _ _ _ _ _).mono ?_;rintro e w3 ⟨rfl,hb3⟩;have hC3:=jw hb3 hC2;have hbw3:=hbw2.trans (hb3.mono hbw2.size);obtain ⟨e0,e1,e2,e3,e4,e5,e6,e7,e8⟩:=ry hC3)
    |(go_at_call 49;refine (zk _ ?_ _).mono ?_;(focus assumption);rintro e w4 ⟨rfl,rfl⟩))
   go_ret
   exact ⟨by rw [HF.out];rfl,hbw3⟩
  have HF:Hid (cmdF op who key new ty at' st d wt=0):=cmdF_ok HO.out HW.out HN.out hs HZ.out (by rw [hl1,hl2];decide)
  go_wp2_with (first
   |(go_at_call 47;refine (zm _ _ _ _ _ _ _ _ _ _ _ _ _ _ _ _ _ _).mono ?_;rintro e w2 ⟨rfl,hb2⟩;have hC2:=jw hb2 hC;have hK2:=jw hb2 hK;have hbw2:=hbw.trans (hb2.mono hbw.size);obtain ⟨a0,a1,a2,a3,a4,a5,a6,a7,a8⟩:=ry hC2;obtain ⟨⟨b0,b1,b2,b3,b4,b5,b6,b7⟩,_⟩:=bq hK2)
   |(go_at_call 48;refine (zn _ _ _ _ _ _ _ _ _ _ _ _ _ _ _ _ _ _).mono ?_;rintro e w3 ⟨rfl,hb3⟩;have hC3:=jw hb3 hC2;have hbw3:=hbw2.trans (hb3.mono hbw2.size);obtain ⟨e0,e1,e2,e3,e4,e5,e6,e7,e8⟩:=ry hC3)
   |(go_at_call 49;refine (zk _ ?_ _).mono ?_;(focus assumption);rintro e w4 ⟨rfl,rfl⟩))
  go_ret
  exact ⟨by rw [HF.out];rfl,hbw3⟩
end Go.Proofs.YtpkhdihoijkamaaGreatDoor.K
