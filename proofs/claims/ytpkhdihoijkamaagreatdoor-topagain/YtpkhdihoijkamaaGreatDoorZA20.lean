/- Several texts of this seat in one: OPred, OHeld, OHeldBy, OOut, OClr. No statement of the seat is proved here. -/
import Derived.Test.YtpkhdihoijkamaaGreatDoorZA19
import Derived.Deep.RegionHeld3
import Derived.Deep.DeepCutAuto
set_option maxHeartbeats 4000000
namespace Go.Proofs.YtpkhdihoijkamaaGreatDoor
open Go.ChangeShapes Go.WideShapes Go.ChangeAt Go.RowKit Go.Deep
def uq (l:List (Int × Int)) (who key:Int):Bool:=key != 0 && keyOf l who == key
structure LW (w:World) where
 val:World
 ok:Below w.heap.size w val
theorem Calls.quiet_lw {P:Program} {f:FuncId} {args:Array Value} {wr:World} {p:LW wr} {v:Value} (h:Calls P f args p.val fun e w'=>e=.returned v∧Below p.val.heap.size p.val w'):Calls P f args p.val fun e w''=>e=.returned v∧∃ q:LW wr,w''=q.val :=
 h.mono fun _ w' ⟨he,hb⟩=>⟨he,⟨w',p.ok.trans (hb.mono p.ok.size)⟩,rfl⟩
theorem xy {P:Program} {id:Nat} {Q:Exit→Act→World→Prop} {a:Act} {w:World} {l:List Oper} (hm:P.follows .mixedOrders=true) (hB:Region.lexB .any l.toArray=true)
 (h:wpQuiet P l.toArray (fun w'=>∃ p:LW w,w'=p.val) (fun a'=>∀ w',(∃ p:LW w,w'=p.val)→Q .normal a' w') l a):(Code.region id l.toArray true).wp P Q a w :=
 wp_region_quiet (C:=fun w'=>∃ p:LW w,w'=p.val) hm hB ⟨⟨w.drew,(Below.refl _ _).drew⟩,rfl⟩ (by simpa using h)
theorem ac3 (g t h:Int) (a:Option Addr) (n c:Nat) (y:Bool) (l:List (Int × Int)) (op who key new kind at':Int) (st:Bool) (da wa:ByteArray) (w:World) (hr:Row w a n l) :
 Calls Tryz.prog 169 #[.agg #[.int .i64 g,.slice a n c,.int .i64 t,.int .i64 h,.bool y],.agg #[.int .i64 op,.int .i64 who,.int .i64 key,.int .i64 new,.int .i64 kind,.int .i64 at',.bool st,.string da,.string wa]] w fun e w'=>e=.returned (.bool (uq l who key))∧Below w.heap.size w w':=by
 obtain ⟨X,hX⟩:∃ X,X=(w.alloc (.cells #[.int .i64 g,.slice a n c,.int .i64 t,.int .i64 h,.bool y] 36)).alloc (.cells #[.int .i64 op,.int .i64 who,.int .i64 key,.int .i64 new,.int .i64 kind,.int .i64 at',.bool st,.string da,.string wa] 24):=⟨_,rfl⟩
 have bX:Below w.heap.size w X:=by rw [hX];exact ((Below.refl _ _).alloc (Nat.le_refl _) _).alloc (by simp) _
 have s0:X.heap[w.heap.size]? = some (.cells #[.int .i64 g,.slice a n c,.int .i64 t,.int .i64 h,.bool y] 36 (0,0)):=by rw [hX,Below.heap_alloc _ _ _ (by simp)];exact heap_alloc_new w _
 have s1:X.heap[w.heap.size+1]? = some (.cells #[.int .i64 op,.int .i64 who,.int .i64 key,.int .i64 new,.int .i64 kind,.int .i64 at',.bool st,.string da,.string wa] 24 (0,0)):=by
  rw [hX];simpa using heap_alloc_new (w.alloc (.cells #[.int .i64 g,.slice a n c,.int .i64 t,.int .i64 h,.bool y] 36)) (.cells #[.int .i64 op,.int .i64 who,.int .i64 key,.int .i64 new,.int .i64 kind,.int .i64 at',.bool st,.string da,.string wa] 24)
 have c0:X.cell? ⟨w.heap.size,0,.none⟩=some (.int .i64 g):=by simp [World.cell?,s0]
 have c1:X.cell? ⟨w.heap.size,1,.none⟩=some (.slice a n c):=by simp [World.cell?,s0]
 have c2:X.cell? ⟨w.heap.size,2,.none⟩=some (.int .i64 t):=by simp [World.cell?,s0]
 have c3:X.cell? ⟨w.heap.size,3,.none⟩=some (.int .i64 h):=by simp [World.cell?,s0]
 have c4:X.cell? ⟨w.heap.size,4,.none⟩=some (.bool y):=by simp [World.cell?,s0]
 have d1:X.cell? ⟨w.heap.size+1,1,.none⟩=some (.int .i64 who):=by simp [World.cell?,s1]
 have d2:X.cell? ⟨w.heap.size+1,2,.none⟩=some (.int .i64 key):=by simp [World.cell?,s1]
 go_enter Tryz.func169,Tryz.ntmps169
 go_wp2
 rw [←hX]
 clear hX s0 s1
 have q0:∀ p:LW X,p.val.cell? ⟨w.heap.size,0,.none⟩=some (.int .i64 g):=fun p=>cell_later p.ok c0
 have q1:∀ p:LW X,p.val.cell? ⟨w.heap.size,1,.none⟩=some (.slice a n c):=fun p=>cell_later p.ok c1
 have q2:∀ p:LW X,p.val.cell? ⟨w.heap.size,2,.none⟩=some (.int .i64 t):=fun p=>cell_later p.ok c2
 have q3:∀ p:LW X,p.val.cell? ⟨w.heap.size,3,.none⟩=some (.int .i64 h):=fun p=>cell_later p.ok c3
 have q4:∀ p:LW X,p.val.cell? ⟨w.heap.size,4,.none⟩=some (.bool y):=fun p=>cell_later p.ok c4
 have r1:∀ p:LW X,p.val.cell? ⟨w.heap.size+1,1,.none⟩=some (.int .i64 who):=fun p=>cell_later p.ok d1
 have r2:∀ p:LW X,p.val.cell? ⟨w.heap.size+1,2,.none⟩=some (.int .i64 key):=fun p=>cell_later p.ok d2
 clear c0 c1 c2 c3 c4 d1 d2
 have hinh:Nonempty (LW X):=⟨⟨X,Below.refl _ _⟩⟩
 have HK:Hid (∀ p:LW X,Row p.val a n l):=fun p=>hr.later (bX.trans (p.ok.mono bX.size))
 by_cases hk:key=0
 ·have hk':(key != 0)=false:=by simpa using hk
  have HP:Hid (uq l who key=false):=by show _=_;simp [uq,hk]
  clear hk
  refine xy (by kernel_rfl) (by kernel_rfl) ?_
  repeat (go_big_quiet_step (fail))
  refine wpQuiet_nil ?_
  rintro _ ⟨⟨wq,hbq⟩,rfl⟩
  go_wp2
  go_ret
  exact ⟨fq HP.out.symm,bX.trans (hbq.mono bX.size)⟩
 ·have hk':(key != 0)=true:=by simpa using hk
  have HP:Hid (uq l who key=(keyOf l who == key)):=by show _=_;simp [uq,hk]
  clear hk
  refine xy (by kernel_rfl) (by kernel_rfl) ?_
  repeat (go_big_quiet_step ((go_at_call 42;exact Calls.quiet_lw (xq g t h a n c y l who _ (HK.out _)))))
  refine wpQuiet_nil ?_
  rintro _ ⟨⟨wq,hbq⟩,rfl⟩
  go_wp2
  go_ret
  exact ⟨fq HP.out.symm,bX.trans (hbq.mono bX.size)⟩
abbrev stV (g:Int) (a:Option Addr) (n c:Nat) (t h:Int) (y:Bool):Value:=.agg #[.int .i64 g,.slice a n c,.int .i64 t,.int .i64 h,.bool y]
abbrev cmV (op who key new kind at':Int) (st:Bool) (da wa:ByteArray):Value:=.agg #[.int .i64 op,.int .i64 who,.int .i64 key,.int .i64 new,.int .i64 kind,.int .i64 at',.bool st,.string da,.string wa]
def StB (X:World) (N:Nat) (g:Int) (a:Option Addr) (n c:Nat) (t h:Int) (y:Bool):Prop:=X.heap[N]? = some (.cells #[.int .i64 g,.slice a n c,.int .i64 t,.int .i64 h,.bool y] 36 (0,0))
def CmB (X:World) (N:Nat) (op who key new kind at':Int) (st:Bool) (da wa:ByteArray):Prop:=X.heap[N]? = some (.cells #[.int .i64 op,.int .i64 who,.int .i64 key,.int .i64 new,.int .i64 kind,.int .i64 at',.bool st,.string da,.string wa] 24 (0,0))
theorem StB.cells {X:World} {N:Nat} {g:Int} {a:Option Addr} {n c:Nat} {t h:Int} {y:Bool} (hb:StB X N g a n c t h y) :
 (X.cell? ⟨N,0,.none⟩=some (.int .i64 g)∧X.cell? ⟨N,1,.none⟩=some (.slice a n c)∧X.cell? ⟨N,2,.none⟩=some (.int .i64 t)∧X.cell? ⟨N,3,.none⟩=some (.int .i64 h)∧X.cell? ⟨N,4,.none⟩=some (.bool y)) ∧
 (X.frozen? ⟨N,0,.none⟩=false∧X.frozen? ⟨N,1,.none⟩=false∧X.frozen? ⟨N,2,.none⟩=false∧X.frozen? ⟨N,3,.none⟩=false∧X.frozen? ⟨N,4,.none⟩=false):=by
 unfold StB at hb
 simp [World.cell?,World.frozen?,hb]
theorem CmB.cells {X:World} {N:Nat} {op who key new kind at':Int} {st:Bool} {da wa:ByteArray} (hb:CmB X N op who key new kind at' st da wa) :
 X.cell? ⟨N,0,.none⟩=some (.int .i64 op)∧X.cell? ⟨N,1,.none⟩=some (.int .i64 who)∧X.cell? ⟨N,2,.none⟩=some (.int .i64 key)∧X.cell? ⟨N,3,.none⟩=some (.int .i64 new)∧X.cell? ⟨N,4,.none⟩=some (.int .i64 kind)∧X.cell? ⟨N,5,.none⟩=some (.int .i64 at')∧X.cell? ⟨N,6,.none⟩=some (.bool st)∧X.cell? ⟨N,7,.none⟩=some (.string da)∧X.cell? ⟨N,8,.none⟩=some (.string wa):=by
 unfold CmB at hb
 simp [World.cell?,hb]
theorem StB.later {X X':World} {N B:Nat} {g:Int} {a:Option Addr} {n c:Nat} {t h:Int} {y:Bool} (hb:StB X N g a n c t h y) (b:Below B X X') (hB:N<B):StB X' N g a n c t h y:=by
 unfold StB;rw [b.block N hB];exact hb
theorem CmB.later {X X':World} {N B:Nat} {op who key new kind at':Int} {st:Bool} {da wa:ByteArray} (hb:CmB X N op who key new kind at' st da wa) (b:Below B X X') (hB:N<B):CmB X' N op who key new kind at' st da wa:=by
 unfold CmB;rw [b.block N hB];exact hb
theorem laidTwo (w:World) (g:Int) (a:Option Addr) (n c:Nat) (t h:Int) (y:Bool) (op who key new kind at':Int) (st:Bool) (da wa:ByteArray) :
 ∃ X,X=(w.alloc (.cells #[.int .i64 g,.slice a n c,.int .i64 t,.int .i64 h,.bool y] 36)).alloc (.cells #[.int .i64 op,.int .i64 who,.int .i64 key,.int .i64 new,.int .i64 kind,.int .i64 at',.bool st,.string da,.string wa] 24) ∧
   Below w.heap.size w X∧X.heap.size=w.heap.size+2∧StB X w.heap.size g a n c t h y∧CmB X (w.heap.size+1) op who key new kind at' st da wa:=by
 refine ⟨_,rfl,((Below.refl _ _).alloc (Nat.le_refl _) _).alloc (by simp) _,by simp,?_,?_⟩
 ·unfold StB;rw [Below.heap_alloc _ _ _ (by simp)];exact heap_alloc_new w _
 ·unfold CmB;simpa using heap_alloc_new (w.alloc (.cells #[.int .i64 g,.slice a n c,.int .i64 t,.int .i64 h,.bool y] 36)) (.cells #[.int .i64 op,.int .i64 who,.int .i64 key,.int .i64 new,.int .i64 kind,.int .i64 at',.bool st,.string da,.string wa] 24)
def r9 (t h:Int) (l:List (Int × Int)) (new:Int):Bool:=if l6 t then new == 0 else t != 0 && keyOf l h == new
theorem takes_any (g t h:Int) (a:Option Addr) (n c:Nat) (y:Bool) (l:List (Int × Int)) (op who key new kind at':Int) (st:Bool) (da wa:ByteArray) (w:World) (hr:Row w a n l) :
 Calls Tryz.prog 171 #[stV g a n c t h y,cmV op who key new kind at' st da wa] w fun e w'=>e=.returned (.bool (r9 t h l new))∧Below w.heap.size w w':=by
 obtain ⟨X,hX,bX,sX,S0,C0⟩:=laidTwo w g a n c t h y op who key new kind at' st da wa
 go_enter Tryz.func171,Tryz.ntmps171
 go_wp2_with fail
 rw [←hX]
 clear hX
 refine (xz g t h a n c y X).mono ?_
 rintro e w1 ⟨rfl,hb1⟩
 have bw1:=bX.trans (hb1.mono bX.size)
 have S1:=S0.later hb1 (by omega)
 have C1:=C0.later hb1 (by omega)
 obtain ⟨⟨c0,c1,c2,c3,c4⟩,_⟩:=S1.cells
 obtain ⟨_,d1,d2,d3,_,_,_,_,_⟩:=C1.cells
 cases hA:l6 t with
 | true =>
   have HT:Hid (r9 t h l new=(new == 0)):=by show _=_;unfold r9;rw [hA];rfl
   clear S0 C0 S1 C1
   go_wp2
   go_ret
   exact ⟨fq HT.out.symm,bw1⟩
 | false =>
   have q0:∀ p:LW w1,p.val.cell? ⟨w.heap.size,0,.none⟩=some (.int .i64 g):=fun p=>cell_later p.ok c0
   have q1:∀ p:LW w1,p.val.cell? ⟨w.heap.size,1,.none⟩=some (.slice a n c):=fun p=>cell_later p.ok c1
   have q2:∀ p:LW w1,p.val.cell? ⟨w.heap.size,2,.none⟩=some (.int .i64 t):=fun p=>cell_later p.ok c2
   have q3:∀ p:LW w1,p.val.cell? ⟨w.heap.size,3,.none⟩=some (.int .i64 h):=fun p=>cell_later p.ok c3
   have q4:∀ p:LW w1,p.val.cell? ⟨w.heap.size,4,.none⟩=some (.bool y):=fun p=>cell_later p.ok c4
   have r3:∀ p:LW w1,p.val.cell? ⟨w.heap.size+1,3,.none⟩=some (.int .i64 new):=fun p=>cell_later p.ok d3
   clear c0 c1 c2 c3 c4 d1 d2 d3 S0 C0 S1 C1
   have hinh:Nonempty (LW w1):=⟨⟨w1,Below.refl _ _⟩⟩
   have HK:Hid (∀ p:LW w1,Row p.val a n l):=fun p=>hr.later (bw1.trans (p.ok.mono bw1.size))
   go_wp2
   by_cases hk:t=0
   ·have hk':(t != 0)=false:=by simpa using hk
    have HT:Hid (r9 t h l new=false):=by show _=_;unfold r9;rw [hA];simp [hk]
    clear hk hA
    refine xy (by kernel_rfl) (by kernel_rfl) ?_
    repeat (go_big_quiet_step (fail))
    refine wpQuiet_nil ?_
    rintro _ ⟨⟨wq,hbq⟩,rfl⟩
    go_wp2
    go_ret
    exact ⟨fq HT.out.symm,bw1.trans (hbq.mono bw1.size)⟩
   ·have hk':(t != 0)=true:=by simpa using hk
    have HT:Hid (r9 t h l new=(keyOf l h == new)):=by show _=_;unfold r9;rw [hA];simp [hk]
    clear hk hA
    refine xy (by kernel_rfl) (by kernel_rfl) ?_
    repeat (go_big_quiet_step ((go_at_call 42;exact Calls.quiet_lw (xq g t h a n c y l h _ (HK.out _)))))
    refine wpQuiet_nil ?_
    rintro _ ⟨⟨wq,hbq⟩,rfl⟩
    go_wp2
    go_ret
    exact ⟨fq HT.out.symm,bw1.trans (hbq.mono bw1.size)⟩
def Z5 (X:World) (M:Nat) (v0 v1 v2 v3 v4:Value):World :=
 ((((X.setCell ⟨M,0,.none⟩ v0).setCell ⟨M,1,.none⟩ v1).setCell ⟨M,2,.none⟩ v2).setCell ⟨M,3,.none⟩ v3).setCell ⟨M,4,.none⟩ v4
theorem Z5.cells {X:World} {M:Nat} {u0 u1 u2 u3 u4 v0 v1 v2 v3 v4:Value} {T:TypeId} (h:X.heap[M]? = some (.cells #[u0,u1,u2,u3,u4] T (0,0))):∃ Z,Z=Z5 X M v0 v1 v2 v3 v4 ∧
 Z.cell? ⟨M,0,.none⟩=some v0∧Z.cell? ⟨M,1,.none⟩=some v1∧Z.cell? ⟨M,2,.none⟩=some v2∧Z.cell? ⟨M,3,.none⟩=some v3∧Z.cell? ⟨M,4,.none⟩=some v4:=by
 have h0:=heap_setCell_same _ M 0 _ T v0 h
 have h1:=heap_setCell_same _ M 1 _ T v1 h0
 have h2:=heap_setCell_same _ M 2 _ T v2 h1
 have h3:=heap_setCell_same _ M 3 _ T v3 h2
 have h4:=heap_setCell_same _ M 4 _ T v4 h3
 refine ⟨_,rfl,?_,?_,?_,?_,?_⟩ <;> (unfold Z5;simp only [World.cell?,h4];simp)
theorem Z5.below {w X:World} {M B:Nat} {v0 v1 v2 v3 v4:Value} (h:Below B w X) (hM:B≤M):Below B w (Z5 X M v0 v1 v2 v3 v4) :=
 ((((h.setCell (by exact hM) _).setCell (by exact hM) _).setCell (by exact hM) _).setCell (by exact hM) _).setCell (by exact hM) _
theorem aa9 (w:World) (g:Int) (a:Option Addr) (n c:Nat) (t h:Int) (y:Bool) (op who key new kind at':Int) (st:Bool) (da wa:ByteArray) :
 ∃ X,X=((w.alloc (.cells #[.int .i64 g,.slice a n c,.int .i64 t,.int .i64 h,.bool y] 36)).alloc (.cells #[.int .i64 op,.int .i64 who,.int .i64 key,.int .i64 new,.int .i64 kind,.int .i64 at',.bool st,.string da,.string wa] 24)).alloc (.cells #[.int .i64 0,.slice .none 0 0,.int .i64 0,.int .i64 0,.bool false] 36) ∧
   Below w.heap.size w X∧X.heap.size=w.heap.size+3∧StB X w.heap.size g a n c t h y∧CmB X (w.heap.size+1) op who key new kind at' st da wa∧StB X (w.heap.size+1+1) 0 .none 0 0 0 0 false:=by
 obtain ⟨Y,hY,bY,sY,S0,C0⟩:=laidTwo w g a n c t h y op who key new kind at' st da wa
 have bal:Below Y.heap.size Y (Y.alloc (.cells #[.int .i64 0,.slice .none 0 0,.int .i64 0,.int .i64 0,.bool false] 36)):=(Below.refl _ _).alloc (Nat.le_refl _) _
 refine ⟨Y.alloc (.cells #[.int .i64 0,.slice .none 0 0,.int .i64 0,.int .i64 0,.bool false] 36),by rw [hY],bY.trans (bal.mono bY.size),by simp [sY],S0.later bal (by omega),C0.later bal (by omega),?_⟩
 unfold StB
 rw [show w.heap.size+1+1=Y.heap.size by omega]
 exact heap_alloc_new Y _
theorem heldH_all {kind who:Int} (h:l6 kind=true):qm kind who=0:=by
 unfold qm;rw [if_pos (by simpa [l6] using h)]
theorem heldH_no {kind who:Int} (h:l6 kind=false):qm kind who=who:=by
 unfold qm;rw [if_neg (by simpa [l6] using h)]
theorem heldBy_any (g t h:Int) (a:Option Addr) (n c:Nat) (y:Bool) (op who key new kind at':Int) (st:Bool) (da wa:ByteArray) (w:World) :
 Calls Tryz.prog 170 #[stV g a n c t h y,cmV op who key new kind at' st da wa] w fun e w'=>e=.returned (stV g a n c kind (qm kind who) y)∧Below w.heap.size w w':=by
 go_enter Tryz.func170,Tryz.ntmps170
 go_wp2
 go_region
 all_goals
  obtain ⟨X,hX,bX,sX,S0,C0,R0⟩:=aa9 w g a n c kind who y op who key new kind at' st da wa
  go_wp2_with fail
  rw [←hX]
  clear hX
  refine (xz g kind who a n c y X.drew).mono ?_
  rintro e w1 ⟨rfl,hb1⟩
  have hb:Below X.heap.size X w1:=(Below.refl X.heap.size X).drew.trans hb1
  have bw1:=bX.trans (hb.mono bX.size)
  have S1:=S0.later hb (by omega)
  have R1:=R0.later hb (by omega)
  clear S0 C0 R0
  obtain ⟨⟨c0,c1,c2,c3,c4⟩,⟨f0,f1,f2,f3,f4⟩⟩:=S1.cells
  obtain ⟨⟨e0,e1,e2,e3,e4⟩,⟨q0,q1,q2,q3,q4⟩⟩:=R1.cells
  cases hA:l6 kind with
  | true =>
    have HH:Hid (qm kind who=0):=heldH_all hA
    obtain ⟨V,hV⟩:∃ V,V=w1.setCell ⟨w.heap.size,3,.none⟩ (.int .i64 0):=⟨_,rfl⟩
    have bV:Below w.heap.size w V:=by rw [hV];exact bw1.setCell (by exact Nat.le_refl _) _
    have RV:StB V (w.heap.size+1+1) 0 .none 0 0 0 0 false:=by
     rw [hV];unfold StB;rw [Below.heap_setCell _ _ _ _ (by show w.heap.size+1+1≠w.heap.size;omega)];exact R1
    go_wp2
    rw [←hV]
    obtain ⟨Z,hZ,z0,z1,z2,z3,z4⟩:=Z5.cells (X:=V) (v0:=.int .i64 g) (v1:=.slice a n c) (v2:=.int .i64 kind) (v3:=.int .i64 0) (v4:=.bool y) RV
    have bZ:Below w.heap.size w Z:=by rw [hZ];exact Z5.below bV (by omega)
    unfold Z5 at hZ
    rw [←hZ]
    clear hZ hV
    exact bodyPost_ret (v:=.agg #[.int .i64 g,.slice a n c,.int .i64 kind,.int .i64 0,.bool y]) (by simp [results,Tryz.results170,go_sem,z0,z1,z2,z3,z4]) rfl ⟨by rw [HH.out],bZ⟩
  | false =>
    have HH:Hid (qm kind who=who):=heldH_no hA
    go_wp2
    obtain ⟨Z,hZ,z0,z1,z2,z3,z4⟩:=Z5.cells (X:=w1) (v0:=.int .i64 g) (v1:=.slice a n c) (v2:=.int .i64 kind) (v3:=.int .i64 who) (v4:=.bool y) R1
    have bZ:Below w.heap.size w Z:=by rw [hZ];exact Z5.below bw1 (by omega)
    unfold Z5 at hZ
    rw [←hZ]
    clear hZ
    exact bodyPost_ret (v:=.agg #[.int .i64 g,.slice a n c,.int .i64 kind,.int .i64 who,.bool y]) (by simp [results,Tryz.results170,go_sem,z0,z1,z2,z3,z4]) rfl ⟨by rw [HH.out],bZ⟩
structure Out where
 g:Int
 l:List (Int × Int)
 t:Int
 h:Int
 y:Bool
 tl:List (Int × Int)
 f:Int
def refused (f:Int):Out:=⟨0,[],0,0,false,[],f⟩
def Off (K:Nat) (a:Option Addr) (n:Nat):Prop:=n≠0→∀ ad,a=some ad→ad.block≠K
def uh (B:Nat) (a0:Option Addr) (n0:Nat) (a:Option Addr) (n:Nat):Prop:=∀ b,b<B→Off b a0 n0→Off b a n
theorem mf {B:Nat} {a0:Option Addr} {n0:Nat} {a:Option Addr}:uh B a0 n0 a 0:=fun _ _ _ h=>absurd rfl h
theorem aba {B:Nat} {a0:Option Addr} {n0:Nat}:uh B a0 n0 a0 n0:=fun _ _ h=>h
theorem yl {B:Nat} {a0:Option Addr} {n0 z:Nat} {a:Option Addr} {n:Nat} (h:Far z a) (hz:B≤z):uh B a0 n0 a n:=fun b hb _ _ ad e=>by have:=h ad e;omega
def OutIs (o:Out) (B:Nat) (a0:Option Addr) (n0:Nat) (e:Ending) (w':World):Prop:=∃ a n c a' n' c',e=.returned (.tuple #[stV o.g a n c o.t o.h o.y,.slice a' n' c',ai o.f])∧Row w' a n o.l∧Row w' a' n' o.tl∧uh B a0 n0 a n∧uh B a0 n0 a' n'
theorem uu {w2 a b:World} {N:Nat} {v0 v1 v2 v3 v4 u:Value} (hb:Below a.heap.size a b)
 (h:a.cell? ⟨N,0,.none⟩=some v0∧a.cell? ⟨N,1,.none⟩=some v1∧a.cell? ⟨N,2,.none⟩=some v2∧a.cell? ⟨N,3,.none⟩=some v3∧a.cell? ⟨N,4,.none⟩=some v4∧a.cell? ⟨N+1,1,.none⟩=some u∧Below (N+2) w2 a∧N+3≤a.heap.size) :
 b.cell? ⟨N,0,.none⟩=some v0∧b.cell? ⟨N,1,.none⟩=some v1∧b.cell? ⟨N,2,.none⟩=some v2∧b.cell? ⟨N,3,.none⟩=some v3∧b.cell? ⟨N,4,.none⟩=some v4∧b.cell? ⟨N+1,1,.none⟩=some u∧Below (N+2) w2 b∧N+3≤b.heap.size:=by
 obtain ⟨h0,h1,h2,h3,h4,h5,h6,h7⟩:=h
 exact ⟨cell_later hb h0,cell_later hb h1,cell_later hb h2,cell_later hb h3,cell_later hb h4,cell_later hb h5,h6.trans (hb.mono (by omega)),Nat.le_trans h7 hb.size⟩
theorem keepZ {w2 a:World} {N:Nat} {v0 v1 v2 v3 v4 u x0 x1 x2 x3 x4:Value}
 (h:a.cell? ⟨N,0,.none⟩=some v0∧a.cell? ⟨N,1,.none⟩=some v1∧a.cell? ⟨N,2,.none⟩=some v2∧a.cell? ⟨N,3,.none⟩=some v3∧a.cell? ⟨N,4,.none⟩=some v4∧a.cell? ⟨N+1,1,.none⟩=some u∧Below (N+2) w2 a∧N+3≤a.heap.size) :
 (((((a.setCell ⟨N+1+1,0,.none⟩ x0).setCell ⟨N+1+1,1,.none⟩ x1).setCell ⟨N+1+1,2,.none⟩ x2).setCell ⟨N+1+1,3,.none⟩ x3).setCell ⟨N+1+1,4,.none⟩ x4).cell? ⟨N,0,.none⟩=some v0∧(((((a.setCell ⟨N+1+1,0,.none⟩ x0).setCell ⟨N+1+1,1,.none⟩ x1).setCell ⟨N+1+1,2,.none⟩ x2).setCell ⟨N+1+1,3,.none⟩ x3).setCell ⟨N+1+1,4,.none⟩ x4).cell? ⟨N,1,.none⟩=some v1∧(((((a.setCell ⟨N+1+1,0,.none⟩ x0).setCell ⟨N+1+1,1,.none⟩ x1).setCell ⟨N+1+1,2,.none⟩ x2).setCell ⟨N+1+1,3,.none⟩ x3).setCell ⟨N+1+1,4,.none⟩ x4).cell? ⟨N,2,.none⟩=some v2∧(((((a.setCell ⟨N+1+1,0,.none⟩ x0).setCell ⟨N+1+1,1,.none⟩ x1).setCell ⟨N+1+1,2,.none⟩ x2).setCell ⟨N+1+1,3,.none⟩ x3).setCell ⟨N+1+1,4,.none⟩ x4).cell? ⟨N,3,.none⟩=some v3∧(((((a.setCell ⟨N+1+1,0,.none⟩ x0).setCell ⟨N+1+1,1,.none⟩ x1).setCell ⟨N+1+1,2,.none⟩ x2).setCell ⟨N+1+1,3,.none⟩ x3).setCell ⟨N+1+1,4,.none⟩ x4).cell? ⟨N,4,.none⟩=some v4∧(((((a.setCell ⟨N+1+1,0,.none⟩ x0).setCell ⟨N+1+1,1,.none⟩ x1).setCell ⟨N+1+1,2,.none⟩ x2).setCell ⟨N+1+1,3,.none⟩ x3).setCell ⟨N+1+1,4,.none⟩ x4).cell? ⟨N+1,1,.none⟩=some u∧Below (N+2) w2 (((((a.setCell ⟨N+1+1,0,.none⟩ x0).setCell ⟨N+1+1,1,.none⟩ x1).setCell ⟨N+1+1,2,.none⟩ x2).setCell ⟨N+1+1,3,.none⟩ x3).setCell ⟨N+1+1,4,.none⟩ x4)∧N+3≤(((((a.setCell ⟨N+1+1,0,.none⟩ x0).setCell ⟨N+1+1,1,.none⟩ x1).setCell ⟨N+1+1,2,.none⟩ x2).setCell ⟨N+1+1,3,.none⟩ x3).setCell ⟨N+1+1,4,.none⟩ x4).heap.size:=by
 obtain ⟨h0,h1,h2,h3,h4,h5,h6,h7⟩:=h
 have hb:Below (N+2) a (Z5 a (N+1+1) x0 x1 x2 x3 x4):=Z5.below (Below.refl _ _) (by omega)
 exact ⟨(hb.cell (p:=⟨N,0,.none⟩) (by show N<N+2;omega)).trans h0,(hb.cell (p:=⟨N,1,.none⟩) (by show N<N+2;omega)).trans h1,(hb.cell (p:=⟨N,2,.none⟩) (by show N<N+2;omega)).trans h2,(hb.cell (p:=⟨N,3,.none⟩) (by show N<N+2;omega)).trans h3,(hb.cell (p:=⟨N,4,.none⟩) (by show N<N+2;omega)).trans h4,(hb.cell (p:=⟨N+1,1,.none⟩) (by show N+1<N+2;omega)).trans h5,h6.trans hb,Nat.le_trans h7 hb.size⟩
theorem startS {a:World} {N:Nat} {v0 v1 v2 v3 v4 u:Value}
 (h:a.cell? ⟨N,0,.none⟩=some v0∧a.cell? ⟨N,1,.none⟩=some v1∧a.cell? ⟨N,2,.none⟩=some v2∧a.cell? ⟨N,3,.none⟩=some v3∧a.cell? ⟨N,4,.none⟩=some v4∧a.cell? ⟨N+1,1,.none⟩=some u∧N+3≤a.heap.size) :
 a.drew.cell? ⟨N,0,.none⟩=some v0∧a.drew.cell? ⟨N,1,.none⟩=some v1∧a.drew.cell? ⟨N,2,.none⟩=some v2∧a.drew.cell? ⟨N,3,.none⟩=some v3∧a.drew.cell? ⟨N,4,.none⟩=some v4∧a.drew.cell? ⟨N+1,1,.none⟩=some u∧Below (N+2) a a.drew∧N+3≤a.drew.heap.size:=by
 obtain ⟨h0,h1,h2,h3,h4,h5,h6⟩:=h
 exact ⟨h0,h1,h2,h3,h4,h5,(Below.refl _ _).drew,h6⟩
theorem rowS {w w2 b:World} {ar:Option Addr} {n:Nat} {l:List (Int × Int)} {v0 v1 v2 v3 v4 u:Value} (hr:Row w ar n l) (bw:Below w.heap.size w w2)
 (h:b.cell? ⟨w.heap.size,0,.none⟩=some v0∧b.cell? ⟨w.heap.size,1,.none⟩=some v1∧b.cell? ⟨w.heap.size,2,.none⟩=some v2∧b.cell? ⟨w.heap.size,3,.none⟩=some v3∧b.cell? ⟨w.heap.size,4,.none⟩=some v4∧b.cell? ⟨w.heap.size+1,1,.none⟩=some u∧Below (w.heap.size+2) w2 b∧w.heap.size+3≤b.heap.size):Row b ar n l :=
 hr.later (bw.trans (h.2.2.2.2.2.2.1.mono (by omega)))
theorem StB.dl {X X':World} {N:Nat} {g:Int} {a:Option Addr} {n c:Nat} {t h:Int} {y:Bool} (hb:StB X N g a n c t h y) (b:Below X.drew.heap.size X.drew X'):StB X' N g a n c t h y :=
 hb.later ((Below.refl X.heap.size X).drew.trans b) (Array.getElem?_eq_some_iff.1 hb).1
theorem StB.nl {X X':World} {N:Nat} {g:Int} {a:Option Addr} {n c:Nat} {t h:Int} {y:Bool} (hb:StB X N g a n c t h y) (b:Below X.heap.size X X'):StB X' N g a n c t h y :=
 hb.later b (Array.getElem?_eq_some_iff.1 hb).1
theorem nums_le {w:World} {a:Option Addr} {n:Nat} {l:List Int} (h:dz w a n l) (hl:l.length≤1000):n≤1000000:=by have:=h.1;omega
theorem uj (X:World) (M j:Nat) (u:Value) (b:Nat) (hne:b≠M):(X.setCell ⟨M,j,.none⟩ u).heap[b]? = X.heap[b]? := Below.heap_setCell _ _ _ _ hne
theorem Row.z5 {X:World} {a:Option Addr} {n z M:Nat} {l:List (Int × Int)} {v0 v1 v2 v3 v4:Value} (h:Row X a n l) (hf:Far z a) (hM:M<z):Row (Z5 X M v0 v1 v2 v3 v4) a n l:=by
 refine ⟨h.1,h.2.1,fun hn=>?_⟩
 obtain ⟨b,off,rfl,hc⟩:=h.2.2 hn
 have hz:z≤b:=hf _ rfl
 have hne:b≠M:=by omega
 have hb:(Z5 X M v0 v1 v2 v3 v4).heap[b]? = X.heap[b]? := by
  unfold Z5
  rw [uj _ M 4 _ b hne,uj _ M 3 _ b hne,uj _ M 2 _ b hne,uj _ M 1 _ b hne,uj _ M 0 _ b hne]
 refine ⟨b,off,rfl,fun i hi=>?_⟩
 exact ⟨(World.cell?_of_block (a:=⟨b,off+i*2,.none⟩) hb).trans (hc i hi).1,(World.cell?_of_block (a:=⟨b,off+i*2+1,.none⟩) hb).trans (hc i hi).2⟩
theorem Far.mono {z z':Nat} {a:Option Addr} (h:Far z a) (hz:z'≤z):Far z' a:=fun ad e=>Nat.le_trans hz (h ad e)
theorem StB.lt {X:World} {N:Nat} {g:Int} {a:Option Addr} {n c:Nat} {t h:Int} {y:Bool} (hb:StB X N g a n c t h y):N<X.heap.size:=(Array.getElem?_eq_some_iff.1 hb).1
theorem belowS {w2 b:World} {N:Nat} {v0 v1 v2 v3 v4 u:Value}
 (h:b.cell? ⟨N,0,.none⟩=some v0∧b.cell? ⟨N,1,.none⟩=some v1∧b.cell? ⟨N,2,.none⟩=some v2∧b.cell? ⟨N,3,.none⟩=some v3∧b.cell? ⟨N,4,.none⟩=some v4∧b.cell? ⟨N+1,1,.none⟩=some u∧Below (N+2) w2 b∧N+3≤b.heap.size):Below (N+2) w2 b:=h.2.2.2.2.2.2.1
def vk (g t h:Int) (y:Bool) (l:List (Int × Int)) (who key kind:Int):Out :=
 if uq l who key=false then refused 4
 else if t=0 then ⟨g,l,kind,qm kind who,y,[],0⟩
 else if qy t h l who=false∨t≠kind then refused 4
 else ⟨g,l,t,h,y,[],0⟩
def uy (g t h:Int) (y:Bool) (l:List (Int × Int)) (who key kind:Int):Out :=
 if uq l who key=false then refused 4
 else if qy t h l who=false then ⟨g,l,t,h,y,[],0⟩
 else if t≠kind then refused 5
 else if t=1∨t=3 then ⟨g,l,0,0,y,[],0⟩
 else ⟨g,l,0,0,y,ay (dw l who) 2,0⟩
def ze (g:Int) (y:Bool) (l:List (Int × Int)) (who key:Int):Out :=
 if uq l who key=false then refused 4
 else ⟨cnt g,[],0,0,y,ay (dw l who) 3,0⟩
theorem keepS2 {w2 a b:World} {N K:Nat} {v0 v1 v2 v3 v4 u t0 t1 t2 t3 t4:Value} (hb:Below a.heap.size a b) (h:a.cell? ⟨K,0,.none⟩=some t0∧a.cell? ⟨K,1,.none⟩=some t1∧a.cell? ⟨K,2,.none⟩=some t2∧a.cell? ⟨K,3,.none⟩=some t3∧a.cell? ⟨K,4,.none⟩=some t4∧a.cell? ⟨N,0,.none⟩=some v0∧a.cell? ⟨N,1,.none⟩=some v1∧a.cell? ⟨N,2,.none⟩=some v2∧a.cell? ⟨N,3,.none⟩=some v3∧a.cell? ⟨N,4,.none⟩=some v4∧a.cell? ⟨N+1,1,.none⟩=some u∧Below (N+2) w2 a∧N+3≤a.heap.size):b.cell? ⟨K,0,.none⟩=some t0∧b.cell? ⟨K,1,.none⟩=some t1∧b.cell? ⟨K,2,.none⟩=some t2∧b.cell? ⟨K,3,.none⟩=some t3∧b.cell? ⟨K,4,.none⟩=some t4∧b.cell? ⟨N,0,.none⟩=some v0∧b.cell? ⟨N,1,.none⟩=some v1∧b.cell? ⟨N,2,.none⟩=some v2∧b.cell? ⟨N,3,.none⟩=some v3∧b.cell? ⟨N,4,.none⟩=some v4∧b.cell? ⟨N+1,1,.none⟩=some u∧Below (N+2) w2 b∧N+3≤b.heap.size:=by
 obtain ⟨k0,k1,k2,k3,k4,h⟩:=h
 exact ⟨cell_later hb k0,cell_later hb k1,cell_later hb k2,cell_later hb k3,cell_later hb k4,uu hb h⟩
theorem ym {a:World} {M K i:Nat} {x0 x1 x2 x3 x4 v:Value} (hne:K≠M) (h:a.cell? ⟨K,i,.none⟩=some v):(Z5 a M x0 x1 x2 x3 x4).cell? ⟨K,i,.none⟩=some v:=by
 have hb:(Z5 a M x0 x1 x2 x3 x4).heap[K]? = a.heap[K]? := by
  unfold Z5
  rw [uj _ M 4 _ K hne,uj _ M 3 _ K hne,uj _ M 2 _ K hne,uj _ M 1 _ K hne,uj _ M 0 _ K hne]
 exact (World.cell?_of_block (a:=⟨K,i,.none⟩) hb).trans h
theorem keepZ2 {w2 a:World} {N K:Nat} {v0 v1 v2 v3 v4 u t0 t1 t2 t3 t4 x0 x1 x2 x3 x4:Value} (hne:K≠N+1+1) (h:a.cell? ⟨K,0,.none⟩=some t0∧a.cell? ⟨K,1,.none⟩=some t1∧a.cell? ⟨K,2,.none⟩=some t2∧a.cell? ⟨K,3,.none⟩=some t3∧a.cell? ⟨K,4,.none⟩=some t4∧a.cell? ⟨N,0,.none⟩=some v0∧a.cell? ⟨N,1,.none⟩=some v1∧a.cell? ⟨N,2,.none⟩=some v2∧a.cell? ⟨N,3,.none⟩=some v3∧a.cell? ⟨N,4,.none⟩=some v4∧a.cell? ⟨N+1,1,.none⟩=some u∧Below (N+2) w2 a∧N+3≤a.heap.size):(((((a.setCell ⟨N+1+1,0,.none⟩ x0).setCell ⟨N+1+1,1,.none⟩ x1).setCell ⟨N+1+1,2,.none⟩ x2).setCell ⟨N+1+1,3,.none⟩ x3).setCell ⟨N+1+1,4,.none⟩ x4).cell? ⟨K,0,.none⟩=some t0∧(((((a.setCell ⟨N+1+1,0,.none⟩ x0).setCell ⟨N+1+1,1,.none⟩ x1).setCell ⟨N+1+1,2,.none⟩ x2).setCell ⟨N+1+1,3,.none⟩ x3).setCell ⟨N+1+1,4,.none⟩ x4).cell? ⟨K,1,.none⟩=some t1∧(((((a.setCell ⟨N+1+1,0,.none⟩ x0).setCell ⟨N+1+1,1,.none⟩ x1).setCell ⟨N+1+1,2,.none⟩ x2).setCell ⟨N+1+1,3,.none⟩ x3).setCell ⟨N+1+1,4,.none⟩ x4).cell? ⟨K,2,.none⟩=some t2∧(((((a.setCell ⟨N+1+1,0,.none⟩ x0).setCell ⟨N+1+1,1,.none⟩ x1).setCell ⟨N+1+1,2,.none⟩ x2).setCell ⟨N+1+1,3,.none⟩ x3).setCell ⟨N+1+1,4,.none⟩ x4).cell? ⟨K,3,.none⟩=some t3∧(((((a.setCell ⟨N+1+1,0,.none⟩ x0).setCell ⟨N+1+1,1,.none⟩ x1).setCell ⟨N+1+1,2,.none⟩ x2).setCell ⟨N+1+1,3,.none⟩ x3).setCell ⟨N+1+1,4,.none⟩ x4).cell? ⟨K,4,.none⟩=some t4∧(((((a.setCell ⟨N+1+1,0,.none⟩ x0).setCell ⟨N+1+1,1,.none⟩ x1).setCell ⟨N+1+1,2,.none⟩ x2).setCell ⟨N+1+1,3,.none⟩ x3).setCell ⟨N+1+1,4,.none⟩ x4).cell? ⟨N,0,.none⟩=some v0∧(((((a.setCell ⟨N+1+1,0,.none⟩ x0).setCell ⟨N+1+1,1,.none⟩ x1).setCell ⟨N+1+1,2,.none⟩ x2).setCell ⟨N+1+1,3,.none⟩ x3).setCell ⟨N+1+1,4,.none⟩ x4).cell? ⟨N,1,.none⟩=some v1∧(((((a.setCell ⟨N+1+1,0,.none⟩ x0).setCell ⟨N+1+1,1,.none⟩ x1).setCell ⟨N+1+1,2,.none⟩ x2).setCell ⟨N+1+1,3,.none⟩ x3).setCell ⟨N+1+1,4,.none⟩ x4).cell? ⟨N,2,.none⟩=some v2∧(((((a.setCell ⟨N+1+1,0,.none⟩ x0).setCell ⟨N+1+1,1,.none⟩ x1).setCell ⟨N+1+1,2,.none⟩ x2).setCell ⟨N+1+1,3,.none⟩ x3).setCell ⟨N+1+1,4,.none⟩ x4).cell? ⟨N,3,.none⟩=some v3∧(((((a.setCell ⟨N+1+1,0,.none⟩ x0).setCell ⟨N+1+1,1,.none⟩ x1).setCell ⟨N+1+1,2,.none⟩ x2).setCell ⟨N+1+1,3,.none⟩ x3).setCell ⟨N+1+1,4,.none⟩ x4).cell? ⟨N,4,.none⟩=some v4∧(((((a.setCell ⟨N+1+1,0,.none⟩ x0).setCell ⟨N+1+1,1,.none⟩ x1).setCell ⟨N+1+1,2,.none⟩ x2).setCell ⟨N+1+1,3,.none⟩ x3).setCell ⟨N+1+1,4,.none⟩ x4).cell? ⟨N+1,1,.none⟩=some u∧Below (N+2) w2 (((((a.setCell ⟨N+1+1,0,.none⟩ x0).setCell ⟨N+1+1,1,.none⟩ x1).setCell ⟨N+1+1,2,.none⟩ x2).setCell ⟨N+1+1,3,.none⟩ x3).setCell ⟨N+1+1,4,.none⟩ x4)∧N+3≤(((((a.setCell ⟨N+1+1,0,.none⟩ x0).setCell ⟨N+1+1,1,.none⟩ x1).setCell ⟨N+1+1,2,.none⟩ x2).setCell ⟨N+1+1,3,.none⟩ x3).setCell ⟨N+1+1,4,.none⟩ x4).heap.size:=by
 obtain ⟨k0,k1,k2,k3,k4,h⟩:=h
 exact ⟨ym hne k0,ym hne k1,ym hne k2,ym hne k3,ym hne k4,keepZ h⟩
theorem startS2 {a:World} {N K:Nat} {v0 v1 v2 v3 v4 u t0 t1 t2 t3 t4:Value} (h:a.cell? ⟨K,0,.none⟩=some t0∧a.cell? ⟨K,1,.none⟩=some t1∧a.cell? ⟨K,2,.none⟩=some t2∧a.cell? ⟨K,3,.none⟩=some t3∧a.cell? ⟨K,4,.none⟩=some t4∧a.cell? ⟨N,0,.none⟩=some v0∧a.cell? ⟨N,1,.none⟩=some v1∧a.cell? ⟨N,2,.none⟩=some v2∧a.cell? ⟨N,3,.none⟩=some v3∧a.cell? ⟨N,4,.none⟩=some v4∧a.cell? ⟨N+1,1,.none⟩=some u∧N+3≤a.heap.size):a.drew.cell? ⟨K,0,.none⟩=some t0∧a.drew.cell? ⟨K,1,.none⟩=some t1∧a.drew.cell? ⟨K,2,.none⟩=some t2∧a.drew.cell? ⟨K,3,.none⟩=some t3∧a.drew.cell? ⟨K,4,.none⟩=some t4∧a.drew.cell? ⟨N,0,.none⟩=some v0∧a.drew.cell? ⟨N,1,.none⟩=some v1∧a.drew.cell? ⟨N,2,.none⟩=some v2∧a.drew.cell? ⟨N,3,.none⟩=some v3∧a.drew.cell? ⟨N,4,.none⟩=some v4∧a.drew.cell? ⟨N+1,1,.none⟩=some u∧Below (N+2) a a.drew∧N+3≤a.drew.heap.size:=by
 obtain ⟨k0,k1,k2,k3,k4,h⟩:=h
 exact ⟨k0,k1,k2,k3,k4,startS h⟩
theorem rowS2 {w w2 b:World} {K:Nat} {ar:Option Addr} {n:Nat} {l:List (Int × Int)} {v0 v1 v2 v3 v4 u t0 t1 t2 t3 t4:Value} (hr:Row w ar n l) (bw:Below w.heap.size w w2) (h:b.cell? ⟨K,0,.none⟩=some t0∧b.cell? ⟨K,1,.none⟩=some t1∧b.cell? ⟨K,2,.none⟩=some t2∧b.cell? ⟨K,3,.none⟩=some t3∧b.cell? ⟨K,4,.none⟩=some t4∧b.cell? ⟨w.heap.size,0,.none⟩=some v0∧b.cell? ⟨w.heap.size,1,.none⟩=some v1∧b.cell? ⟨w.heap.size,2,.none⟩=some v2∧b.cell? ⟨w.heap.size,3,.none⟩=some v3∧b.cell? ⟨w.heap.size,4,.none⟩=some v4∧b.cell? ⟨w.heap.size+1,1,.none⟩=some u∧Below (w.heap.size+2) w2 b∧w.heap.size+3≤b.heap.size):Row b ar n l:=rowS hr bw h.2.2.2.2.2
theorem belowS2 {w2 b:World} {N K:Nat} {v0 v1 v2 v3 v4 u t0 t1 t2 t3 t4:Value} (h:b.cell? ⟨K,0,.none⟩=some t0∧b.cell? ⟨K,1,.none⟩=some t1∧b.cell? ⟨K,2,.none⟩=some t2∧b.cell? ⟨K,3,.none⟩=some t3∧b.cell? ⟨K,4,.none⟩=some t4∧b.cell? ⟨N,0,.none⟩=some v0∧b.cell? ⟨N,1,.none⟩=some v1∧b.cell? ⟨N,2,.none⟩=some v2∧b.cell? ⟨N,3,.none⟩=some v3∧b.cell? ⟨N,4,.none⟩=some v4∧b.cell? ⟨N+1,1,.none⟩=some u∧Below (N+2) w2 b∧N+3≤b.heap.size):Below (N+2) w2 b:=belowS h.2.2.2.2.2
theorem clearAll_any (g t h:Int) (a:Option Addr) (n c:Nat) (y:Bool) (l:List (Int × Int)) (op who key new kind at':Int) (st:Bool) (da wa:ByteArray) (w:World) (hr:Row w a n l) (hn:n≤1000) (hg:0≤g∧g≤1000000000) :
 Calls Tryz.prog 132 #[stV g a n c t h y,cmV op who key new kind at' st da wa] w fun e w'=>OutIs (ze g y l who key) w.heap.size a n e w'∧Below w.heap.size w w':=by
 obtain ⟨X,hX,bX,sX,S0,C0,R0⟩:=aa9 w g a n c t h y op who key new kind at' st da wa
 obtain ⟨⟨c0,c1,c2,c3,c4⟩,_⟩:=S0.cells
 obtain ⟨d0,d1,d2,d3,d4,d5,d6,d7,d8⟩:=C0.cells
 go_enter Tryz.func132,Tryz.ntmps132
 go_wp2_with fail
 rw [←hX]
 clear hX c0 c1 c2 c3 c4 d0 d1 d2 d3 d4 d5 d6 d7 d8
 refine (ac3 g t h a n c y l op who key new kind at' st da wa X (hr.later bX)).mono ?_
 rintro e w1 ⟨rfl,hb1⟩
 have bw:=bX.trans (hb1.mono bX.size)
 have hs1:=hb1.size
 have S:=S0.later hb1 (by omega)
 have C:=C0.later hb1 (by omega)
 have R:=R0.later hb1 (by omega)
 clear S0 C0 R0 hb1 bX
 cases hP:uq l who key with
 | false =>
   have HS:Hid (ze g y l who key=refused 4):=by show _=_;unfold ze;rw [if_pos hP]
   clear hP S C
   go_wp2_with fail
   refine (zh 4 w1).mono ?_
   rintro e wz ⟨rfl,hbz⟩
   have Rz:=R.later hbz (by omega)
   have bz:=bw.trans (hbz.mono bw.size)
   clear R bw
   obtain ⟨⟨e0,e1,e2,e3,e4⟩,⟨q0,q1,q2,q3,q4⟩⟩:=Rz.cells
   go_wp2
   obtain ⟨Z,hZ,z0,z1,z2,z3,z4⟩:=Z5.cells (X:=wz) (v0:=.int .i64 0) (v1:=.slice .none 0 0) (v2:=.int .i64 0) (v3:=.int .i64 0) (v4:=.bool false) Rz
   have bZ:Below w.heap.size w Z:=by rw [hZ];exact Z5.below bz (by omega)
   unfold Z5 at hZ
   rw [←hZ]
   clear hZ
   exact bodyPost_ret (v:=.tuple #[.agg #[.int .i64 0,.slice .none 0 0,.int .i64 0,.int .i64 0,.bool false],.slice .none 0 0,.iface 96 (.int .i64 4)]) (by simp [results,Tryz.results132,go_sem,z0,z1,z2,z3,z4]) rfl (And.intro (by rw [HS.out];exact ⟨_,_,_,_,_,_,rfl,kv _,kv _,mf,mf⟩) bZ)
 | true =>
   have HS:Hid (ze g y l who key=⟨cnt g,[],0,0,y,ay (dw l who) 3,0⟩):=by show _=_;unfold ze;rw [if_neg (by rw [hP];decide)]
   clear hP
   obtain ⟨⟨c0,c1,c2,c3,c4⟩,_⟩:=S.cells
   obtain ⟨d0,d1,d2,d3,d4,d5,d6,d7,d8⟩:=C.cells
   go_wp2_with fail
   clear c0 c1 c2 c3 c4 d0 d1 d2 d3 d4 d5 d6 d7 d8
   refine (adl g t h a n c y w1 hg).mono ?_
   rintro e w2 ⟨rfl,hbn⟩
   have bw:=bw.trans (hbn.mono bw.size)
   have hsn:=hbn.size
   have S:=S.later hbn (by omega)
   have C:=C.later hbn (by omega)
   have R:=R.later hbn (by omega)
   clear hbn
   go_wp2_with fail
   refine (ach (cnt g) t h a n c y w2).mono ?_
   rintro e w3 ⟨rfl,hbn⟩
   have bw:=bw.trans (hbn.mono bw.size)
   have hsn:=hbn.size
   have S:=S.later hbn (by omega)
   have C:=C.later hbn (by omega)
   have R:=R.later hbn (by omega)
   clear hbn
   have hlo:(dw l who).length≤1000:=by have:=aa6 l who l.length;rw [List.take_length] at this;have:=hr.1;omega
   obtain ⟨V,hV⟩:∃ V,V=w3.alloc (.cells #[.int .i64 (cnt g),.slice .none 0 0,.int .i64 0,.int .i64 0,.bool y] 36):=⟨_,rfl⟩
   have TV:StB V w3.heap.size (cnt g) .none 0 0 0 0 y:=by rw [hV];exact heap_alloc_new w3 _
   have bal:Below w3.heap.size w3 V:=by rw [hV];exact (Below.refl _ _).alloc (Nat.le_refl _) _
   have bw:=bw.trans (bal.mono bw.size)
   have hsn:=bal.size
   have S:=S.later bal (by omega)
   have C:=C.later bal (by omega)
   have R:=R.later bal (by omega)
   have hs2:w.heap.size+3≤V.heap.size:=by omega
   have hKne:w3.heap.size≠w.heap.size+1+1:=by omega
   go_upto_region 5 with fail
   rw [←hV]
   clear hV bal
   generalize w3.heap.size=K at *
   obtain ⟨⟨c0,c1,c2,c3,c4⟩,_⟩:=S.cells
   obtain ⟨d0,d1,d2,d3,d4,d5,d6,d7,d8⟩:=C.cells
   obtain ⟨⟨m0,m1,m2,m3,m4⟩,_⟩:=TV.cells
   obtain ⟨⟨e0,e1,e2,e3,e4⟩,⟨q0,q1,q2,q3,q4⟩⟩:=R.cells
   have HR:Hid (Row w a n l):=hr
   clear S C TV
   go_region_held3 (fun w'=>w'.cell? ⟨K,0,.none⟩=some (.int .i64 (cnt g))∧w'.cell? ⟨K,1,.none⟩=some (.slice .none 0 0)∧w'.cell? ⟨K,2,.none⟩=some (.int .i64 0)∧w'.cell? ⟨K,3,.none⟩=some (.int .i64 0)∧w'.cell? ⟨K,4,.none⟩=some (.bool y)∧w'.cell? ⟨w.heap.size,0,.none⟩=some (.int .i64 g)∧w'.cell? ⟨w.heap.size,1,.none⟩=some (.slice a n c)∧w'.cell? ⟨w.heap.size,2,.none⟩=some (.int .i64 t)∧w'.cell? ⟨w.heap.size,3,.none⟩=some (.int .i64 h)∧w'.cell? ⟨w.heap.size,4,.none⟩=some (.bool y)∧w'.cell? ⟨w.heap.size+1,1,.none⟩=some (.int .i64 who)∧Below (w.heap.size+2) V w'∧w.heap.size+3≤w'.heap.size)
    ((first|with_reducible exact startS2 ⟨m0,m1,m2,m3,m4,c0,c1,c2,c3,c4,d1,hs2⟩|with_reducible exact keepS2 (by assumption) (by assumption)|with_reducible exact keepZ2 hKne (by assumption)))
    (first
     |(go_at_call 168;with_reducible refine (acn g t h a n c y l who _ (rowS2 HR.out bw (by assumption)) (by omega)).mono ?_;rintro e wo ⟨ao,no,co,rfl,hno,hbo⟩;have hnb:=nums_le hno hlo;(first|with_reducible have Ro:=StB.dl R hbo|with_reducible have Ro:=StB.nl Ro hbo);obtain ⟨⟨e0,e1,e2,e3,e4⟩,⟨q0,q1,q2,q3,q4⟩⟩:=Ro.cells)
     |(go_at_call 167;with_reducible refine (tells_any ao no co (dw l who) 3 _ hno hnb).mono ?_;rintro e wt ⟨at2,nt,ct,rfl,hrt,hbt,hft⟩;(first|with_reducible have Rt:=StB.dl R hbt|with_reducible have Rt:=StB.nl Ro hbt);obtain ⟨⟨e0,e1,e2,e3,e4⟩,⟨q0,q1,q2,q3,q4⟩⟩:=Rt.cells))
   all_goals
    have hft3:Far (w.heap.size+3) at2:=hft.mono (by have:=Ro.lt;omega)
    have HT:Hid (Row wt at2 nt (ay (dw l who) 3)):=hrt
    have HF3:Hid (Far (w.heap.size+3) at2):=hft3
    clear hft hft3 hrt hno
    go_wp2
    obtain ⟨Z,hZ,z0,z1,z2,z3,z4⟩:=Z5.cells (X:=wt) (v0:=.int .i64 (cnt g)) (v1:=.slice .none 0 0) (v2:=.int .i64 0) (v3:=.int .i64 0) (v4:=.bool y) Rt
    have hrt:Row Z at2 nt (ay (dw l who) 3):=by rw [hZ];exact HT.out.z5 HF3.out (by omega)
    unfold Z5 at hZ
    have bZ:Below w.heap.size w Z:=by rw [hZ];exact bw.trans (Below.mono (belowS2 (by with_reducible assumption)) (by omega))
    rw [←hZ]
    clear hZ
    exact bodyPost_ret (v:=.tuple #[.agg #[.int .i64 (cnt g),.slice .none 0 0,.int .i64 0,.int .i64 0,.bool y],.slice at2 nt ct,.nilIface]) (by simp [results,Tryz.results132,go_sem,z0,z1,z2,z3,z4]) rfl (And.intro (by rw [HS.out];exact ⟨_,_,_,at2,nt,ct,rfl,kv _,hrt,mf,yl HF3.out (by omega)⟩) bZ)
end Go.Proofs.YtpkhdihoijkamaaGreatDoor
