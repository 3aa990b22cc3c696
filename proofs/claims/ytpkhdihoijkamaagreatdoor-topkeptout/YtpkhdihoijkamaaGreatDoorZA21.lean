/- Several texts of this seat in one: OReg. No statement of the seat is proved here. -/
import Derived.Test.YtpkhdihoijkamaaGreatDoorZA20
import Derived.Deep.RegionHeld3
import Derived.Deep.DeepCutAuto
namespace Go.Proofs.YtpkhdihoijkamaaGreatDoor
open Go.ChangeShapes Go.WideShapes Go.ChangeAt Go.RowKit Go.Deep
def regBad (l:List (Int × Int)) (op who key:Int):Bool:=op == 1 && keyOf l who != key
def sw (g t h:Int) (l:List (Int × Int)) (op who key new:Int) (st:Bool):Out :=
 if regBad l op who key=true then refused 4
 else if new≠0∨qy t h l who=false then ⟨cnt g,fe l who new,t,h,st,[],0⟩
 else if l6 t=true∧0<(fe l who new).length then ⟨cnt g,fe l who new,t,h,st,[],0⟩
 else if t=5∨t=6 then ⟨cnt g,fe l who new,0,0,st,ay (dw (fe l who new) who) 2,0⟩
 else ⟨cnt g,fe l who new,0,0,st,[],0⟩
theorem Row.lt {X:World} {a:Option Addr} {n:Nat} {l:List (Int × Int)} (h:Row X a n l) (hn:n≠0):∀ ad,a=some ad→ad.block<X.heap.size:=by
 obtain ⟨b,off,rfl,hc⟩:=h.2.2 hn
 rintro ad e
 simp only [Option.some.injEq] at e
 subst e
 have:=(hc 0 (by have:=h.1;omega)).1
 rcases Nat.lt_or_ge b X.heap.size with h1|h1
 ·exact h1
 ·simp [World.cell?,Array.getElem?_eq_none h1] at this
theorem Row.off {X X':World} {a:Option Addr} {n K:Nat} {l:List (Int × Int)} (h:Row X a n l) (hf:Off K a n) (hb:∀ b,b≠K→b<X.heap.size→X'.heap[b]? = X.heap[b]?):Row X' a n l:=by
 refine ⟨h.1,h.2.1,fun hn=>?_⟩
 obtain ⟨b,off,rfl,hc⟩:=h.2.2 hn
 have e:=hb b (hf hn _ rfl) (h.lt hn _ rfl)
 refine ⟨b,off,rfl,fun i hi=>?_⟩
 exact ⟨(World.cell?_of_block (a:=⟨b,off+i*2,.none⟩) e).trans (hc i hi).1,(World.cell?_of_block (a:=⟨b,off+i*2+1,.none⟩) e).trans (hc i hi).2⟩
theorem vw (X:World) (M:Nat) (v0 v1 v2 v3 v4:Value) (b:Nat) (hne:b≠M):(Z5 X M v0 v1 v2 v3 v4).heap[b]? = X.heap[b]? := by
 unfold Z5
 rw [uj _ M 4 _ b hne,uj _ M 3 _ b hne,uj _ M 2 _ b hne,uj _ M 1 _ b hne,uj _ M 0 _ b hne]
theorem keepS3 {w1 a b:World} {N:Nat} {v0 v1 v2 v3 v4 u u2:Value} (hb:Below a.heap.size a b) (h:a.cell? ⟨N,0,.none⟩=some v0∧a.cell? ⟨N,1,.none⟩=some v1∧a.cell? ⟨N,2,.none⟩=some v2∧a.cell? ⟨N,3,.none⟩=some v3∧a.cell? ⟨N,4,.none⟩=some v4∧a.cell? ⟨N+1,1,.none⟩=some u∧a.cell? ⟨N+1,3,.none⟩=some u2∧Below (N+3) w1 a∧N+3≤a.heap.size):b.cell? ⟨N,0,.none⟩=some v0∧b.cell? ⟨N,1,.none⟩=some v1∧b.cell? ⟨N,2,.none⟩=some v2∧b.cell? ⟨N,3,.none⟩=some v3∧b.cell? ⟨N,4,.none⟩=some v4∧b.cell? ⟨N+1,1,.none⟩=some u∧b.cell? ⟨N+1,3,.none⟩=some u2∧Below (N+3) w1 b∧N+3≤b.heap.size:=by
 obtain ⟨h0,h1,h2,h3,h4,h5,h6,h7,h8⟩:=h
 exact ⟨cell_later hb h0,cell_later hb h1,cell_later hb h2,cell_later hb h3,cell_later hb h4,cell_later hb h5,cell_later hb h6,h7.trans (hb.mono (by omega)),Nat.le_trans h8 hb.size⟩
theorem keepA3 {w1 a:World} {N:Nat} {v0 v1 v2 v3 v4 u u2:Value} {ob:Obj} (h:a.cell? ⟨N,0,.none⟩=some v0∧a.cell? ⟨N,1,.none⟩=some v1∧a.cell? ⟨N,2,.none⟩=some v2∧a.cell? ⟨N,3,.none⟩=some v3∧a.cell? ⟨N,4,.none⟩=some v4∧a.cell? ⟨N+1,1,.none⟩=some u∧a.cell? ⟨N+1,3,.none⟩=some u2∧Below (N+3) w1 a∧N+3≤a.heap.size):(a.alloc ob).cell? ⟨N,0,.none⟩=some v0∧(a.alloc ob).cell? ⟨N,1,.none⟩=some v1∧(a.alloc ob).cell? ⟨N,2,.none⟩=some v2∧(a.alloc ob).cell? ⟨N,3,.none⟩=some v3∧(a.alloc ob).cell? ⟨N,4,.none⟩=some v4∧(a.alloc ob).cell? ⟨N+1,1,.none⟩=some u∧(a.alloc ob).cell? ⟨N+1,3,.none⟩=some u2∧Below (N+3) w1 (a.alloc ob)∧N+3≤(a.alloc ob).heap.size:=keepS3 ((Below.refl _ _).alloc (Nat.le_refl _) _) h
theorem StB.over {X:World} {K:Nat} {g g':Int} {a a':Option Addr} {n c n' c':Nat} {t h t' h':Int} {y y':Bool} (hb:StB X K g a n c t h y):StB (Z5 X K (.int .i64 g') (.slice a' n' c') (.int .i64 t') (.int .i64 h') (.bool y')) K g' a' n' c' t' h' y':=by
 unfold StB at hb ⊢
 unfold Z5
 have:=heap_setCell_same _ K 4 _ _ (.bool y') (heap_setCell_same _ K 3 _ _ (.int .i64 h') (heap_setCell_same _ K 2 _ _ (.int .i64 t') (heap_setCell_same _ K 1 _ _ (.slice a' n' c') (heap_setCell_same _ K 0 _ _ (.int .i64 g') hb))))
 simpa using this
theorem StB.set4 {X:World} {K:Nat} {g:Int} {a:Option Addr} {n c:Nat} {t h:Int} {y y':Bool} (hb:StB X K g a n c t h y):StB (X.setCell ⟨K,4,.none⟩ (.bool y')) K g a n c t h y':=by
 unfold StB at hb ⊢
 have:=heap_setCell_same _ K 4 _ _ (.bool y') hb
 simpa using this
theorem withL_len (l:List (Int × Int)) (who key:Int):(fe l who key).length≤l.length+1:=by
 unfold fe
 have:=kept_le who l
 split
 ·omega
 ·rw [ab7 _ _ _ (pl_le _ _)];omega
theorem StB.newl {A B:World} {g:Int} {a:Option Addr} {n c:Nat} {t h:Int} {y:Bool} (hb:Below (A.alloc (.cells #[.int .i64 g,.slice a n c,.int .i64 t,.int .i64 h,.bool y] 36)).heap.size (A.alloc (.cells #[.int .i64 g,.slice a n c,.int .i64 t,.int .i64 h,.bool y] 36)) B):StB B A.heap.size g a n c t h y :=
 StB.later (X:=A.alloc (.cells #[.int .i64 g,.slice a n c,.int .i64 t,.int .i64 h,.bool y] 36)) (heap_alloc_new A _) hb (by simp)
theorem StB.newdl {A B:World} {g:Int} {a:Option Addr} {n c:Nat} {t h:Int} {y:Bool} (hb:Below (A.alloc (.cells #[.int .i64 g,.slice a n c,.int .i64 t,.int .i64 h,.bool y] 36)).drew.heap.size (A.alloc (.cells #[.int .i64 g,.slice a n c,.int .i64 t,.int .i64 h,.bool y] 36)).drew B):StB B A.heap.size g a n c t h y :=
 StB.newl (((Below.refl _ _).drew).trans hb)
theorem keepB3 {w1 a:World} {N:Nat} {v0 v1 v2 v3 v4 u u2:Value} {ob ob2:Obj} (hs:N+3≤a.heap.size) (h:(a.alloc ob).cell? ⟨N,0,.none⟩=some v0∧(a.alloc ob).cell? ⟨N,1,.none⟩=some v1∧(a.alloc ob).cell? ⟨N,2,.none⟩=some v2∧(a.alloc ob).cell? ⟨N,3,.none⟩=some v3∧(a.alloc ob).cell? ⟨N,4,.none⟩=some v4∧(a.alloc ob).cell? ⟨N+1,1,.none⟩=some u∧(a.alloc ob).cell? ⟨N+1,3,.none⟩=some u2∧Below (N+3) w1 (a.alloc ob)∧N+3≤(a.alloc ob).heap.size):(a.alloc ob2).cell? ⟨N,0,.none⟩=some v0∧(a.alloc ob2).cell? ⟨N,1,.none⟩=some v1∧(a.alloc ob2).cell? ⟨N,2,.none⟩=some v2∧(a.alloc ob2).cell? ⟨N,3,.none⟩=some v3∧(a.alloc ob2).cell? ⟨N,4,.none⟩=some v4∧(a.alloc ob2).cell? ⟨N+1,1,.none⟩=some u∧(a.alloc ob2).cell? ⟨N+1,3,.none⟩=some u2∧Below (N+3) w1 (a.alloc ob2)∧N+3≤(a.alloc ob2).heap.size:=by
 obtain ⟨h0,h1,h2,h3,h4,h5,h6,h7,h8⟩:=h
 have e:∀ b i,b<N+3→(a.alloc ob2).cell? ⟨b,i,.none⟩=(a.alloc ob).cell? ⟨b,i,.none⟩:=fun b i hb=>by
  have e1:=(Below.refl a.heap.size a).alloc (Nat.le_refl _) ob
  have e2:=(Below.refl a.heap.size a).alloc (Nat.le_refl _) ob2
  exact ((e2.cell (p:=⟨b,i,.none⟩) (by show b<_;omega))).trans (e1.cell (p:=⟨b,i,.none⟩) (by show b<_;omega)).symm
 refine ⟨(e _ _ (by omega)).trans h0,(e _ _ (by omega)).trans h1,(e _ _ (by omega)).trans h2,(e _ _ (by omega)).trans h3,(e _ _ (by omega)).trans h4,(e _ _ (by omega)).trans h5,(e _ _ (by omega)).trans h6,?_,?_⟩
 ·have e1:=(Below.refl a.heap.size a).alloc (Nat.le_refl _) ob
  have e2:=(Below.refl a.heap.size a).alloc (Nat.le_refl _) ob2
  refine ⟨h7.1,h7.2,h7.3,by simpa using h7.4,fun k hk=>?_⟩
  exact ((e2.block k (by omega)).trans (e1.block k (by omega)).symm).trans (h7.block k hk)
 ·simpa using h8
theorem keepZ3 {w1 a:World} {N K:Nat} {v0 v1 v2 v3 v4 u u2 x0 x1 x2 x3 x4:Value} (hK:N+3≤K) (h:a.cell? ⟨N,0,.none⟩=some v0∧a.cell? ⟨N,1,.none⟩=some v1∧a.cell? ⟨N,2,.none⟩=some v2∧a.cell? ⟨N,3,.none⟩=some v3∧a.cell? ⟨N,4,.none⟩=some v4∧a.cell? ⟨N+1,1,.none⟩=some u∧a.cell? ⟨N+1,3,.none⟩=some u2∧Below (N+3) w1 a∧N+3≤a.heap.size):(((((a.setCell ⟨K,0,.none⟩ x0).setCell ⟨K,1,.none⟩ x1).setCell ⟨K,2,.none⟩ x2).setCell ⟨K,3,.none⟩ x3).setCell ⟨K,4,.none⟩ x4).cell? ⟨N,0,.none⟩=some v0∧(((((a.setCell ⟨K,0,.none⟩ x0).setCell ⟨K,1,.none⟩ x1).setCell ⟨K,2,.none⟩ x2).setCell ⟨K,3,.none⟩ x3).setCell ⟨K,4,.none⟩ x4).cell? ⟨N,1,.none⟩=some v1∧(((((a.setCell ⟨K,0,.none⟩ x0).setCell ⟨K,1,.none⟩ x1).setCell ⟨K,2,.none⟩ x2).setCell ⟨K,3,.none⟩ x3).setCell ⟨K,4,.none⟩ x4).cell? ⟨N,2,.none⟩=some v2∧(((((a.setCell ⟨K,0,.none⟩ x0).setCell ⟨K,1,.none⟩ x1).setCell ⟨K,2,.none⟩ x2).setCell ⟨K,3,.none⟩ x3).setCell ⟨K,4,.none⟩ x4).cell? ⟨N,3,.none⟩=some v3∧(((((a.setCell ⟨K,0,.none⟩ x0).setCell ⟨K,1,.none⟩ x1).setCell ⟨K,2,.none⟩ x2).setCell ⟨K,3,.none⟩ x3).setCell ⟨K,4,.none⟩ x4).cell? ⟨N,4,.none⟩=some v4∧(((((a.setCell ⟨K,0,.none⟩ x0).setCell ⟨K,1,.none⟩ x1).setCell ⟨K,2,.none⟩ x2).setCell ⟨K,3,.none⟩ x3).setCell ⟨K,4,.none⟩ x4).cell? ⟨N+1,1,.none⟩=some u∧(((((a.setCell ⟨K,0,.none⟩ x0).setCell ⟨K,1,.none⟩ x1).setCell ⟨K,2,.none⟩ x2).setCell ⟨K,3,.none⟩ x3).setCell ⟨K,4,.none⟩ x4).cell? ⟨N+1,3,.none⟩=some u2∧Below (N+3) w1 (((((a.setCell ⟨K,0,.none⟩ x0).setCell ⟨K,1,.none⟩ x1).setCell ⟨K,2,.none⟩ x2).setCell ⟨K,3,.none⟩ x3).setCell ⟨K,4,.none⟩ x4)∧N+3≤(((((a.setCell ⟨K,0,.none⟩ x0).setCell ⟨K,1,.none⟩ x1).setCell ⟨K,2,.none⟩ x2).setCell ⟨K,3,.none⟩ x3).setCell ⟨K,4,.none⟩ x4).heap.size:=by
 obtain ⟨h0,h1,h2,h3,h4,h5,h6,h7,h8⟩:=h
 have hb:Below (N+3) a (Z5 a K x0 x1 x2 x3 x4):=Z5.below (Below.refl _ _) hK
 exact ⟨ym (by omega) h0,ym (by omega) h1,ym (by omega) h2,ym (by omega) h3,ym (by omega) h4,ym (by omega) h5,ym (by omega) h6,h7.trans hb,Nat.le_trans h8 hb.size⟩
theorem startS3 {a:World} {N:Nat} {v0 v1 v2 v3 v4 u u2:Value} (h:a.cell? ⟨N,0,.none⟩=some v0∧a.cell? ⟨N,1,.none⟩=some v1∧a.cell? ⟨N,2,.none⟩=some v2∧a.cell? ⟨N,3,.none⟩=some v3∧a.cell? ⟨N,4,.none⟩=some v4∧a.cell? ⟨N+1,1,.none⟩=some u∧a.cell? ⟨N+1,3,.none⟩=some u2∧N+3≤a.heap.size):a.drew.cell? ⟨N,0,.none⟩=some v0∧a.drew.cell? ⟨N,1,.none⟩=some v1∧a.drew.cell? ⟨N,2,.none⟩=some v2∧a.drew.cell? ⟨N,3,.none⟩=some v3∧a.drew.cell? ⟨N,4,.none⟩=some v4∧a.drew.cell? ⟨N+1,1,.none⟩=some u∧a.drew.cell? ⟨N+1,3,.none⟩=some u2∧Below (N+3) a a.drew∧N+3≤a.drew.heap.size:=by
 obtain ⟨h0,h1,h2,h3,h4,h5,h6,h7⟩:=h
 exact ⟨h0,h1,h2,h3,h4,h5,h6,(Below.refl _ _).drew,h7⟩
theorem startA3 {a:World} {N:Nat} {v0 v1 v2 v3 v4 u u2:Value} {ob:Obj} (h:a.cell? ⟨N,0,.none⟩=some v0∧a.cell? ⟨N,1,.none⟩=some v1∧a.cell? ⟨N,2,.none⟩=some v2∧a.cell? ⟨N,3,.none⟩=some v3∧a.cell? ⟨N,4,.none⟩=some v4∧a.cell? ⟨N+1,1,.none⟩=some u∧a.cell? ⟨N+1,3,.none⟩=some u2∧N+3≤a.heap.size):(a.alloc ob).drew.cell? ⟨N,0,.none⟩=some v0∧(a.alloc ob).drew.cell? ⟨N,1,.none⟩=some v1∧(a.alloc ob).drew.cell? ⟨N,2,.none⟩=some v2∧(a.alloc ob).drew.cell? ⟨N,3,.none⟩=some v3∧(a.alloc ob).drew.cell? ⟨N,4,.none⟩=some v4∧(a.alloc ob).drew.cell? ⟨N+1,1,.none⟩=some u∧(a.alloc ob).drew.cell? ⟨N+1,3,.none⟩=some u2∧Below (N+3) a (a.alloc ob).drew∧N+3≤(a.alloc ob).drew.heap.size:=by
 have hb:Below a.heap.size a (a.alloc ob).drew:=((Below.refl _ _).alloc (Nat.le_refl _) _).drew
 obtain ⟨h0,h1,h2,h3,h4,h5,h6,h7⟩:=h
 exact ⟨cell_later hb h0,cell_later hb h1,cell_later hb h2,cell_later hb h3,cell_later hb h4,cell_later hb h5,cell_later hb h6,hb.mono h7,Nat.le_trans h7 hb.size⟩
theorem belowS3 {w1 b:World} {N:Nat} {v0 v1 v2 v3 v4 u u2:Value} (h:b.cell? ⟨N,0,.none⟩=some v0∧b.cell? ⟨N,1,.none⟩=some v1∧b.cell? ⟨N,2,.none⟩=some v2∧b.cell? ⟨N,3,.none⟩=some v3∧b.cell? ⟨N,4,.none⟩=some v4∧b.cell? ⟨N+1,1,.none⟩=some u∧b.cell? ⟨N+1,3,.none⟩=some u2∧Below (N+3) w1 b∧N+3≤b.heap.size):Below (N+3) w1 b:=h.2.2.2.2.2.2.2.1
theorem rowS3 {w w1 b:World} {ar:Option Addr} {n:Nat} {l:List (Int × Int)} {v0 v1 v2 v3 v4 u u2:Value} (hr:Row w ar n l) (bw:Below w.heap.size w w1) (h:b.cell? ⟨w.heap.size,0,.none⟩=some v0∧b.cell? ⟨w.heap.size,1,.none⟩=some v1∧b.cell? ⟨w.heap.size,2,.none⟩=some v2∧b.cell? ⟨w.heap.size,3,.none⟩=some v3∧b.cell? ⟨w.heap.size,4,.none⟩=some v4∧b.cell? ⟨w.heap.size+1,1,.none⟩=some u∧b.cell? ⟨w.heap.size+1,3,.none⟩=some u2∧Below (w.heap.size+3) w1 b∧w.heap.size+3≤b.heap.size):Row b ar n l:=hr.later (bw.trans (h.2.2.2.2.2.2.2.1.mono (by omega)))
set_option maxRecDepth 100000 in
set_option maxHeartbeats 8000000 in
theorem register_any (g t h:Int) (a:Option Addr) (n c:Nat) (y:Bool) (l:List (Int × Int)) (op who key new kind at':Int) (st:Bool) (da wa:ByteArray) (w:World) (hr:Row w a n l) (hn:n≤900) (hg:0≤g∧g≤1000000000) :
 Calls Tryz.prog 129 #[stV g a n c t h y,cmV op who key new kind at' st da wa] w fun e w'=>OutIs (sw g t h l op who key new st) w.heap.size a n e w'∧Below w.heap.size w w':=by
 obtain ⟨X,hX,bX,sX,S0,C0,R0⟩:=aa9 w g a n c t h y op who key new kind at' st da wa
 obtain ⟨⟨c0,c1,c2,c3,c4⟩,_⟩:=S0.cells
 obtain ⟨d0,d1,d2,d3,d4,d5,d6,d7,d8⟩:=C0.cells
 go_enter Tryz.func129,Tryz.ntmps129
 go_upto_region 1 with fail
 rw [←hX]
 clear hX
 go_cut [19] (fun b wx=>b=.bool (regBad l op who key)∧Below X.heap.size X wx)
 case first =>
  have q0:∀ p:LW X,p.val.cell? ⟨w.heap.size,0,.none⟩=some (.int .i64 g):=fun p=>cell_later p.ok c0
  have q1:∀ p:LW X,p.val.cell? ⟨w.heap.size,1,.none⟩=some (.slice a n c):=fun p=>cell_later p.ok c1
  have q2:∀ p:LW X,p.val.cell? ⟨w.heap.size,2,.none⟩=some (.int .i64 t):=fun p=>cell_later p.ok c2
  have q3:∀ p:LW X,p.val.cell? ⟨w.heap.size,3,.none⟩=some (.int .i64 h):=fun p=>cell_later p.ok c3
  have q4:∀ p:LW X,p.val.cell? ⟨w.heap.size,4,.none⟩=some (.bool y):=fun p=>cell_later p.ok c4
  have r0:∀ p:LW X,p.val.cell? ⟨w.heap.size+1,0,.none⟩=some (.int .i64 op):=fun p=>cell_later p.ok d0
  have r1:∀ p:LW X,p.val.cell? ⟨w.heap.size+1,1,.none⟩=some (.int .i64 who):=fun p=>cell_later p.ok d1
  have r2:∀ p:LW X,p.val.cell? ⟨w.heap.size+1,2,.none⟩=some (.int .i64 key):=fun p=>cell_later p.ok d2
  clear c0 c1 c2 c3 c4 d0 d1 d2 d3 d4 d5 d6 d7 d8 S0 C0 R0
  have hinh:Nonempty (LW X):=⟨⟨X,Below.refl _ _⟩⟩
  have HK:Hid (∀ p:LW X,Row p.val a n l):=fun p=>hr.later (bX.trans (p.ok.mono bX.size))
  by_cases hk:op=1
  ·have hk':(op == 1)=true:=by simpa using hk
   have HP:Hid ((keyOf l who != key)=regBad l op who key):=by show _=_;simp [regBad,hk]
   clear hk
   refine xy (by kernel_rfl) (by kernel_rfl) ?_
   repeat (go_big_quiet_step ((go_at_call 42;exact Calls.quiet_lw (xq g t h a n c y l who _ (HK.out _)))))
   refine wpQuiet_nil ?_
   rintro _ ⟨⟨wq,hbq⟩,rfl⟩
   go_wp2
   go_meet
   case rel=>exact ⟨congrArg Value.bool HP.out,hbq⟩
  ·have hk':(op == 1)=false:=by simpa using hk
   have HP:Hid (false=regBad l op who key):=by show _=_;simp [regBad,hk]
   clear hk
   refine xy (by kernel_rfl) (by kernel_rfl) ?_
   repeat (go_big_quiet_step (fail))
   refine wpQuiet_nil ?_
   rintro _ ⟨⟨wq,hbq⟩,rfl⟩
   go_wp2
   go_meet
   case rel=>exact ⟨congrArg Value.bool HP.out,hbq⟩
 case rest =>
  obtain ⟨rfl,hbn⟩:=hcut
  obtain ⟨w1,rfl⟩:∃ W,W=wc:=⟨_,rfl⟩
  clear c0 c1 c2 c3 c4 d0 d1 d2 d3 d4 d5 d6 d7 d8
  have bw:=bX.trans (hbn.mono bX.size)
  have hsn:=hbn.size
  have S:=S0.later hbn (by omega)
  have C:=C0.later hbn (by omega)
  have R:=R0.later hbn (by omega)
  clear S0 C0 R0 hbn bX
  cases hP':regBad l op who key with
  | true =>
    have HS:Hid (sw g t h l op who key new st=refused 4):=by show _=_;unfold sw;rw [if_pos hP']
    clear S C
    go_wp2_with fail
    refine (zh 4 w1).mono ?_
    rintro e wz ⟨rfl,hbz⟩
    have Rz:=R.later hbz (by omega)
    have bz:=bw.trans (hbz.mono bw.size)
    clear R bw
    obtain ⟨⟨e0,e1,e2,e3,e4⟩,⟨q0,q1,q2,q3,q4⟩⟩:=Rz.cells
    go_wp2
    obtain ⟨Z,hZ,z0,z1,z2,z3,z4⟩:=Z5.cells (X:=wz) (v0:=.int .i64 0) (v1:=.slice .none 0 0) (v2:=.int .i64 0) (v3:=.int .i64 0) (v4:=.bool false) Rz
    have bZ:Below w.heap.size w Z:=by rw [hZ];exact Z5.below bz (by omega)
    unfold Z5 at hZ
    rw [←hZ]
    clear hZ
    exact bodyPost_ret (v:=.tuple #[.agg #[.int .i64 0,.slice .none 0 0,.int .i64 0,.int .i64 0,.bool false],.slice .none 0 0,.iface 96 (.int .i64 4)]) (by simp [results,Tryz.results129,go_sem,z0,z1,z2,z3,z4]) rfl (And.intro (by rw [HS.out];exact ⟨_,_,_,_,_,_,rfl,kv _,kv _,mf,mf⟩) bZ)
  | false =>
    have HP:Hid (¬regBad l op who key=true):=by show ¬_;rw [hP'];decide
    have hs3:w.heap.size+3≤w1.heap.size:=by omega
    have HR:Hid (Row w a n l):=hr
    obtain ⟨⟨c0,c1,c2,c3,c4⟩,_⟩:=S.cells
    obtain ⟨d0,d1,d2,d3,d4,d5,d6,d7,d8⟩:=C.cells
    go_upto_region 3 with fail
    go_cut [7] (fun s7 wx=>∃ (K:Nat) (a2:Option Addr) (n2 c2:Nat),s7=.pointer (some ⟨K,0,.none⟩)∧StB wx K (cnt g) a2 n2 c2 t h y∧Row wx a2 n2 (fe l who new)∧Off K a2 n2∧Far (w.heap.size+3) a2∧w.heap.size+3≤K∧Below (w.heap.size+3) w1 wx)
    case first =>
     clear S C R hr hP'
     go_region_held3 (fun w'=>w'.cell? ⟨w.heap.size,0,.none⟩=some (.int .i64 g)∧w'.cell? ⟨w.heap.size,1,.none⟩=some (.slice a n c)∧w'.cell? ⟨w.heap.size,2,.none⟩=some (.int .i64 t)∧w'.cell? ⟨w.heap.size,3,.none⟩=some (.int .i64 h)∧w'.cell? ⟨w.heap.size,4,.none⟩=some (.bool y)∧w'.cell? ⟨w.heap.size+1,1,.none⟩=some (.int .i64 who)∧w'.cell? ⟨w.heap.size+1,3,.none⟩=some (.int .i64 new)∧Below (w.heap.size+3) w1 w'∧w.heap.size+3≤w'.heap.size)
      ((first|with_reducible exact startS3 ⟨c0,c1,c2,c3,c4,d1,d3,hs3⟩|with_reducible exact startA3 ⟨c0,c1,c2,c3,c4,d1,d3,hs3⟩|with_reducible exact keepS3 (by assumption) (by assumption)|with_reducible exact keepA3 (by assumption)|with_reducible exact keepB3 (by have h1:=hbf.size;have h2:=hbo.size;simp at h1 h2;omega) (by assumption)|with_reducible exact keepZ3 (by first|omega|(simp;omega)|(have h1:=hbf.size;simp at h1;omega)) (by assumption)))
      (first
       |(go_at_call 165;with_reducible refine (adl g t h a n c y _ hg).mono ?_;rintro e wf ⟨rfl,hbf⟩;first|(with_reducible have Tf:=StB.newl hbf;obtain ⟨⟨e0,e1,e2,e3,e4⟩,⟨q0,q1,q2,q3,q4⟩⟩:=Tf.cells)|(with_reducible have Tf:=StB.newdl hbf;obtain ⟨⟨e0,e1,e2,e3,e4⟩,⟨q0,q1,q2,q3,q4⟩⟩:=Tf.cells)|skip)
       |(go_at_call 164;with_reducible refine (with_far (cnt g) t h a n c y l who new _ (rowS3 HR.out bw (by assumption)) (by omega)).mono ?_;rintro e wo ⟨a2,n2,c2,rfl,hro,hbo,hfo⟩;first|(with_reducible have To:=StB.newl hbo;obtain ⟨⟨e0,e1,e2,e3,e4⟩,⟨q0,q1,q2,q3,q4⟩⟩:=To.cells)|(with_reducible have To:=StB.nl Tf hbo;obtain ⟨⟨e0,e1,e2,e3,e4⟩,⟨q0,q1,q2,q3,q4⟩⟩:=To.cells)|skip))
     all_goals go_wp2_with fail
     all_goals go_meet
     all_goals
      have hz1:=hbf.size
      have hz2:=hbo.size
      simp at hz1 hz2
     ·exact ⟨wo.heap.size,a2,n2,c2,rfl,heap_alloc_new wo _,hro.later ((Below.refl _ _).alloc (Nat.le_refl _) _),fun hn0 ad e=>Nat.ne_of_lt (hro.lt hn0 ad e),hfo.mono (by omega),by omega,belowS3 (by assumption)⟩
     ·exact ⟨wf.heap.size,a2,n2,c2,rfl,To.over,hro.z5 hfo (by simp),fun _ ad e=>by have:=hfo ad e;simp at this;omega,hfo.mono (by simp;omega),by omega,belowS3 (by assumption)⟩
     ·exact ⟨w1.heap.size,a2,n2,c2,rfl,To.over,hro.z5 hfo (by omega),fun _ ad e=>by have:=hfo ad e;omega,hfo.mono (by omega),by omega,belowS3 (by assumption)⟩
    case rest =>
     obtain ⟨K,a2,n2,k2,rfl,T,hr2,ho2,hf2,hK,hbn⟩:=hcut
     obtain ⟨w2,rfl⟩:∃ W,W=wc:=⟨_,rfl⟩
     clear c0 c1 c2 c3 c4 d0 d1 d2 d3 d4 d5 d6 d7 d8 hP'
     have bw:=bw.trans (hbn.mono (by omega))
     have hsn:=hbn.size
     have S:=S.later hbn (by omega)
     have C:=C.later hbn (by omega)
     have R:=R.later hbn (by omega)
     have hn2:n2≤901:=by have:=withL_len l who new;have:=hr2.1;have:=hr.1;omega
     have HL2:Hid (n2=(fe l who new).length):=hr2.1.symm
     clear hbn hs3
     obtain ⟨V,hV⟩:∃ V,V=w2.setCell ⟨K,4,.none⟩ (.bool st):=⟨_,rfl⟩
     obtain ⟨⟨c0,c1,c2,c3,c4⟩,_⟩:=S.cells
     obtain ⟨d0,d1,d2,d3,d4,d5,d6,d7,d8⟩:=C.cells
     obtain ⟨⟨m0,m1,m2,m3,m4⟩,⟨p0,p1,p2,p3,p4⟩⟩:=T.cells
     obtain ⟨⟨e0,e1,e2,e3,e4⟩,⟨q0,q1,q2,q3,q4⟩⟩:=R.cells
     go_upto_region 5 with fail
     rw [←hV]
     have bV:Below (w.heap.size+3) w2 V:=by rw [hV];exact (Below.refl _ _).setCell hK _
     have hTl:=T.lt
     have T:StB V K (cnt g) a2 n2 k2 t h st:=by rw [hV];exact T.set4
     have hr2:Row V a2 n2 (fe l who new):=hr2.off ho2 (fun b hb _=>by rw [hV];exact uj _ K 4 _ b hb)
     clear hV c0 c1 c2 c3 c4 d0 d1 d2 d3 d4 d5 d6 d7 d8 m0 m1 m2 m3 m4 p0 p1 p2 p3 p4 e0 e1 e2 e3 e4 q0 q1 q2 q3 q4
     have bw:=bw.trans (bV.mono (by omega))
     have hsn:=bV.size
     have S:=S.later bV (by omega)
     have C:=C.later bV (by omega)
     have R:=R.later bV (by omega)
     clear bV
     by_cases hnew:new=0
     ·have hnew':(new != 0)=false:=by simpa using hnew
      obtain ⟨⟨c0,c1,c2,c3,c4⟩,_⟩:=S.cells
      obtain ⟨d0,d1,d2,d3,d4,d5,d6,d7,d8⟩:=C.cells
      go_wp2_with fail
      clear c0 c1 c2 c3 c4 d0 d1 d2 d3 d4 d5 d6 d7 d8
      refine (ab8 g t h a n c y l who V (hr.later bw)).mono ?_
      rintro e w3 ⟨rfl,hbn⟩
      have bw:=bw.trans (hbn.mono bw.size)
      have hsn:=hbn.size
      have S:=S.later hbn (by have:=S.lt;omega)
      have C:=C.later hbn (by omega)
      have R:=R.later hbn (by omega)
      have T:=T.later hbn T.lt
      have hr2:=hr2.later hbn
      clear hbn
      cases hH:qy t h l who with
      | false =>
        have HS:Hid (sw g t h l op who key new st=⟨cnt g,fe l who new,t,h,st,[],0⟩):=by show _=_;unfold sw;rw [if_neg HP.out,if_pos (.inr hH)]
        clear hnew hH
        obtain ⟨⟨c0,c1,c2,c3,c4⟩,_⟩:=S.cells
        obtain ⟨d0,d1,d2,d3,d4,d5,d6,d7,d8⟩:=C.cells
        obtain ⟨⟨m0,m1,m2,m3,m4⟩,⟨p0,p1,p2,p3,p4⟩⟩:=T.cells
        obtain ⟨⟨e0,e1,e2,e3,e4⟩,⟨q0,q1,q2,q3,q4⟩⟩:=R.cells
        have HR2:Hid (Row w3 a2 n2 (fe l who new)):=hr2
        have HF:Hid (Far (w.heap.size+3) a2):=hf2
        clear hr2 hf2 ho2
        go_wp2
        obtain ⟨Z,hZ,z0,z1,z2,z3,z4⟩:=Z5.cells (X:=w3) (v0:=.int .i64 (cnt g)) (v1:=.slice a2 n2 k2) (v2:=.int .i64 t) (v3:=.int .i64 h) (v4:=.bool st) R
        have bZ:Below w.heap.size w Z:=by rw [hZ];exact Z5.below bw (by omega)
        have hrZ:Row Z a2 n2 (fe l who new):=by rw [hZ];exact HR2.out.z5 HF.out (by omega)
        unfold Z5 at hZ
        rw [←hZ]
        clear hZ
        exact bodyPost_ret (v:=.tuple #[.agg #[.int .i64 (cnt g),.slice a2 n2 k2,.int .i64 t,.int .i64 h,.bool st],.slice .none 0 0,.nilIface]) (by simp [results,Tryz.results129,go_sem,z0,z1,z2,z3,z4]) rfl (And.intro (by rw [HS.out];exact ⟨a2,n2,k2,_,_,_,rfl,hrZ,kv _,yl HF.out (by omega),mf⟩) bZ)
      | true =>
        have HH:Hid (¬(new≠0∨qy t h l who=false)):=by show ¬_;rw [hH];simp [hnew]
        clear hnew hH
        obtain ⟨⟨c0,c1,c2,c3,c4⟩,_⟩:=S.cells
        obtain ⟨d0,d1,d2,d3,d4,d5,d6,d7,d8⟩:=C.cells
        obtain ⟨⟨m0,m1,m2,m3,m4⟩,⟨p0,p1,p2,p3,p4⟩⟩:=T.cells
        obtain ⟨⟨e0,e1,e2,e3,e4⟩,⟨q0,q1,q2,q3,q4⟩⟩:=R.cells
        go_upto_region 7 with fail
        go_cut [52] (fun b wx=>b=.bool (l6 t && decide ((0:Int)<(n2:Int)))∧Below w3.heap.size w3 wx)
        case first =>
         go_wp2_with fail
         refine (xz g t h a n c y w3).mono ?_
         rintro e w4 ⟨rfl,hb4⟩
         have m1':=cell_later hb4 m1
         clear c0 c1 c2 c3 c4 d0 d1 d2 d3 d4 d5 d6 d7 d8 m0 m1 m2 m3 m4 p0 p1 p2 p3 p4 e0 e1 e2 e3 e4 q0 q1 q2 q3 q4
         cases hA:l6 t with
         | true =>
           go_wp2
           go_meet
           case rel=>exact ⟨by rw [hA,Bool.true_and];simp,hb4⟩
         | false =>
           go_wp2
           go_meet
           case rel=>exact ⟨by rw [hA,Bool.false_and],hb4⟩
        case rest =>
         obtain ⟨rfl,hbn⟩:=hcut
         obtain ⟨w4,rfl⟩:∃ W,W=wc:=⟨_,rfl⟩
         clear c0 c1 c2 c3 c4 d0 d1 d2 d3 d4 d5 d6 d7 d8 m0 m1 m2 m3 m4 p0 p1 p2 p3 p4 e0 e1 e2 e3 e4 q0 q1 q2 q3 q4
         have bw:=bw.trans (hbn.mono bw.size)
         have hsn:=hbn.size
         have S:=S.later hbn (by have:=S.lt;omega)
         have C:=C.later hbn (by omega)
         have R:=R.later hbn (by omega)
         have T:=T.later hbn T.lt
         have hr2:=hr2.later hbn
         clear hbn
         cases hA:(l6 t && decide ((0:Int)<(n2:Int))) with
         | true =>
           have HS:Hid (sw g t h l op who key new st=⟨cnt g,fe l who new,t,h,st,[],0⟩):=by
            show _=_
            unfold sw
            simp only [Bool.and_eq_true,decide_eq_true_eq] at hA
            rw [if_neg HP.out,if_neg HH.out,if_pos ⟨hA.1,by have:=HL2.out;omega⟩]
           obtain ⟨⟨c0,c1,c2,c3,c4⟩,_⟩:=S.cells
           obtain ⟨d0,d1,d2,d3,d4,d5,d6,d7,d8⟩:=C.cells
           obtain ⟨⟨m0,m1,m2,m3,m4⟩,⟨p0,p1,p2,p3,p4⟩⟩:=T.cells
           obtain ⟨⟨e0,e1,e2,e3,e4⟩,⟨q0,q1,q2,q3,q4⟩⟩:=R.cells
           have HR2:Hid (Row w4 a2 n2 (fe l who new)):=hr2
           have HF:Hid (Far (w.heap.size+3) a2):=hf2
           clear hr2 hf2 ho2
           go_wp2
           obtain ⟨Z,hZ,z0,z1,z2,z3,z4⟩:=Z5.cells (X:=w4) (v0:=.int .i64 (cnt g)) (v1:=.slice a2 n2 k2) (v2:=.int .i64 t) (v3:=.int .i64 h) (v4:=.bool st) R
           have bZ:Below w.heap.size w Z:=by rw [hZ];exact Z5.below bw (by omega)
           have hrZ:Row Z a2 n2 (fe l who new):=by rw [hZ];exact HR2.out.z5 HF.out (by omega)
           unfold Z5 at hZ
           rw [←hZ]
           clear hZ
           exact bodyPost_ret (v:=.tuple #[.agg #[.int .i64 (cnt g),.slice a2 n2 k2,.int .i64 t,.int .i64 h,.bool st],.slice .none 0 0,.nilIface]) (by simp [results,Tryz.results129,go_sem,z0,z1,z2,z3,z4]) rfl (And.intro (by rw [HS.out];exact ⟨a2,n2,k2,_,_,_,rfl,hrZ,kv _,yl HF.out (by omega),mf⟩) bZ)
         | false =>
           have HA:Hid (¬(l6 t=true∧0<(fe l who new).length)):=by
            show ¬_
            rintro ⟨h1,h2⟩
            rw [h1] at hA
            simp at hA
            have:=HL2.out
            omega
           obtain ⟨⟨c0,c1,c2,c3,c4⟩,_⟩:=S.cells
           obtain ⟨d0,d1,d2,d3,d4,d5,d6,d7,d8⟩:=C.cells
           obtain ⟨⟨m0,m1,m2,m3,m4⟩,⟨p0,p1,p2,p3,p4⟩⟩:=T.cells
           obtain ⟨⟨e0,e1,e2,e3,e4⟩,⟨q0,q1,q2,q3,q4⟩⟩:=R.cells
           go_wp2_with fail
           clear c0 c1 c2 c3 c4 d0 d1 d2 d3 d4 d5 d6 d7 d8 m0 m1 m2 m3 m4 p0 p1 p2 p3 p4 e0 e1 e2 e3 e4 q0 q1 q2 q3 q4
           refine (ach (cnt g) t h a2 n2 k2 st w4).mono ?_
           rintro e w5 ⟨rfl,hbn⟩
           have bw:=bw.trans (hbn.mono bw.size)
           have hsn:=hbn.size
           have S:=S.later hbn (by have:=S.lt;omega)
           have C:=C.later hbn (by omega)
           have R:=R.later hbn (by omega)
           have T:=T.later hbn T.lt
           have hr2:=hr2.later hbn
           clear hbn
           obtain ⟨V2,hV2⟩:∃ V,V=Z5 w5 K (.int .i64 (cnt g)) (.slice a2 n2 k2) (.int .i64 0) (.int .i64 0) (.bool st):=⟨_,rfl⟩
           obtain ⟨⟨c0,c1,c2,c3,c4⟩,_⟩:=S.cells
           obtain ⟨d0,d1,d2,d3,d4,d5,d6,d7,d8⟩:=C.cells
           obtain ⟨⟨m0,m1,m2,m3,m4⟩,⟨p0,p1,p2,p3,p4⟩⟩:=T.cells
           obtain ⟨⟨e0,e1,e2,e3,e4⟩,⟨q0,q1,q2,q3,q4⟩⟩:=R.cells
           go_upto_region 10 with fail
           clear c0 c1 c2 c3 c4 d0 d1 d2 d3 d4 d5 d6 d7 d8 m0 m1 m2 m3 m4 p0 p1 p2 p3 p4 e0 e1 e2 e3 e4 q0 q1 q2 q3 q4
           have hV3:=hV2
           unfold Z5 at hV3
           rw [←hV3]
           clear hV3
           have bV2:Below (w.heap.size+3) w5 V2:=by rw [hV2];exact Z5.below (Below.refl _ _) hK
           have T:StB V2 K (cnt g) a2 n2 k2 0 0 st:=by rw [hV2];exact T.over
           have hr2:Row V2 a2 n2 (fe l who new):=hr2.off ho2 (fun b hb _=>by rw [hV2];exact vw _ _ _ _ _ _ _ b hb)
           clear hV2
           have bw:=bw.trans (bV2.mono (by omega))
           have hsn:=bV2.size
           have S:=S.later bV2 (by omega)
           have C:=C.later bV2 (by omega)
           have R:=R.later bV2 (by omega)
           clear bV2 hA
           by_cases h56:t=5∨t=6
           ·have HS:Hid (sw g t h l op who key new st=⟨cnt g,fe l who new,0,0,st,ay (dw (fe l who new) who) 2,0⟩):=by show _=_;unfold sw;rw [if_neg HP.out,if_neg HH.out,if_neg HA.out,if_pos h56]
            have HQ:((t == 5)=true)∨((t == 5)=false∧(t == 6)=true):=by rcases h56 with e|e <;> simp [e]
            clear h56
            have hlo:(dw (fe l who new) who).length≤1000:=by have:=aa6 (fe l who new) who (fe l who new).length;rw [List.take_length] at this;have:=HL2.out;omega
            have hs2:w.heap.size+3≤V2.heap.size:=by omega
            have hKne:K≠w.heap.size+1+1:=by omega
            have HR2:Hid (Row V2 a2 n2 (fe l who new)):=hr2
            have HF:Hid (Far (w.heap.size+3) a2):=hf2
            clear hr2 hf2 ho2
            rcases HQ with k5|⟨k5,k6⟩
            all_goals
             obtain ⟨⟨c0,c1,c2,c3,c4⟩,_⟩:=S.cells
             obtain ⟨d0,d1,d2,d3,d4,d5,d6,d7,d8⟩:=C.cells
             obtain ⟨⟨m0,m1,m2,m3,m4⟩,⟨p0,p1,p2,p3,p4⟩⟩:=T.cells
             obtain ⟨⟨e0,e1,e2,e3,e4⟩,⟨q0,q1,q2,q3,q4⟩⟩:=R.cells
             go_upto_region 11 with fail
             clear S C T
             go_region_held3 (fun w'=>w'.cell? ⟨K,0,.none⟩=some (.int .i64 (cnt g))∧w'.cell? ⟨K,1,.none⟩=some (.slice a2 n2 k2)∧w'.cell? ⟨K,2,.none⟩=some (.int .i64 0)∧w'.cell? ⟨K,3,.none⟩=some (.int .i64 0)∧w'.cell? ⟨K,4,.none⟩=some (.bool st)∧w'.cell? ⟨w.heap.size,0,.none⟩=some (.int .i64 g)∧w'.cell? ⟨w.heap.size,1,.none⟩=some (.slice a n c)∧w'.cell? ⟨w.heap.size,2,.none⟩=some (.int .i64 t)∧w'.cell? ⟨w.heap.size,3,.none⟩=some (.int .i64 h)∧w'.cell? ⟨w.heap.size,4,.none⟩=some (.bool y)∧w'.cell? ⟨w.heap.size+1,1,.none⟩=some (.int .i64 who)∧Below (w.heap.size+2) V2 w'∧w.heap.size+3≤w'.heap.size)
              ((first|with_reducible exact startS2 ⟨m0,m1,m2,m3,m4,c0,c1,c2,c3,c4,d1,hs2⟩|with_reducible exact keepS2 (by assumption) (by assumption)|with_reducible exact keepZ2 hKne (by assumption)))
              (first
               |(go_at_call 168;with_reducible refine (acn (cnt g) 0 0 a2 n2 k2 st (fe l who new) who _ (HR2.out.later (Below.refl _ _).drew) (by omega)).mono ?_;rintro e wo ⟨ao,no,co,rfl,hno,hbo⟩;have hnb:=nums_le hno hlo;with_reducible have Ro:=StB.dl R hbo;obtain ⟨⟨e0,e1,e2,e3,e4⟩,⟨q0,q1,q2,q3,q4⟩⟩:=Ro.cells)
               |(go_at_call 167;with_reducible refine (tells_any ao no co (dw (fe l who new) who) 2 _ hno hnb).mono ?_;rintro e wt ⟨at2,nt,ct,rfl,hrt,hbt,hft⟩;with_reducible have Rt:=StB.nl Ro hbt;obtain ⟨⟨e0,e1,e2,e3,e4⟩,⟨q0,q1,q2,q3,q4⟩⟩:=Rt.cells))
             all_goals
              have hft3:Far (w.heap.size+3) at2:=hft.mono (by have:=Ro.lt;omega)
              have HT:Hid (Row wt at2 nt (ay (dw (fe l who new) who) 2)):=hrt
              have HF3:Hid (Far (w.heap.size+3) at2):=hft3
              have HR3:Hid (Row wt a2 n2 (fe l who new)):=(HR2.out.later ((Below.refl _ _).drew.trans hbo)).later hbt
              clear hft hft3 hrt hno
              go_wp2
              obtain ⟨Z,hZ,z0,z1,z2,z3,z4⟩:=Z5.cells (X:=wt) (v0:=.int .i64 (cnt g)) (v1:=.slice a2 n2 k2) (v2:=.int .i64 0) (v3:=.int .i64 0) (v4:=.bool st) Rt
              have hrt:Row Z at2 nt (ay (dw (fe l who new) who) 2):=by rw [hZ];exact HT.out.z5 HF3.out (by omega)
              have hrZ:Row Z a2 n2 (fe l who new):=by rw [hZ];exact HR3.out.z5 HF.out (by omega)
              unfold Z5 at hZ
              have bZ:Below w.heap.size w Z:=by rw [hZ];exact bw.trans (Below.mono (belowS2 (by with_reducible assumption)) (by omega))
              rw [←hZ]
              clear hZ
              exact bodyPost_ret (v:=.tuple #[.agg #[.int .i64 (cnt g),.slice a2 n2 k2,.int .i64 0,.int .i64 0,.bool st],.slice at2 nt ct,.nilIface]) (by simp [results,Tryz.results129,go_sem,z0,z1,z2,z3,z4]) rfl (And.intro (by rw [HS.out];exact ⟨a2,n2,k2,at2,nt,ct,rfl,hrZ,hrt,yl HF.out (by omega),yl HF3.out (by omega)⟩) bZ)
           ·have HS:Hid (sw g t h l op who key new st=⟨cnt g,fe l who new,0,0,st,[],0⟩):=by show _=_;unfold sw;rw [if_neg HP.out,if_neg HH.out,if_neg HA.out,if_neg h56]
            have k5:(t == 5)=false:=by rw [beq_eq_false_iff_ne];exact fun e=>h56 (.inl e)
            have k6:(t == 6)=false:=by rw [beq_eq_false_iff_ne];exact fun e=>h56 (.inr e)
            clear h56
            obtain ⟨⟨c0,c1,c2,c3,c4⟩,_⟩:=S.cells
            obtain ⟨d0,d1,d2,d3,d4,d5,d6,d7,d8⟩:=C.cells
            obtain ⟨⟨m0,m1,m2,m3,m4⟩,⟨p0,p1,p2,p3,p4⟩⟩:=T.cells
            obtain ⟨⟨e0,e1,e2,e3,e4⟩,⟨q0,q1,q2,q3,q4⟩⟩:=R.cells
            have HR2:Hid (Row V2 a2 n2 (fe l who new)):=hr2
            have HF:Hid (Far (w.heap.size+3) a2):=hf2
            clear hr2 hf2 ho2
            go_wp2
            obtain ⟨Z,hZ,z0,z1,z2,z3,z4⟩:=Z5.cells (X:=V2) (v0:=.int .i64 (cnt g)) (v1:=.slice a2 n2 k2) (v2:=.int .i64 0) (v3:=.int .i64 0) (v4:=.bool st) R
            have bZ:Below w.heap.size w Z:=by rw [hZ];exact Z5.below bw (by omega)
            have hrZ:Row Z a2 n2 (fe l who new):=by rw [hZ];exact HR2.out.z5 HF.out (by omega)
            unfold Z5 at hZ
            rw [←hZ]
            clear hZ
            exact bodyPost_ret (v:=.tuple #[.agg #[.int .i64 (cnt g),.slice a2 n2 k2,.int .i64 0,.int .i64 0,.bool st],.slice .none 0 0,.nilIface]) (by simp [results,Tryz.results129,go_sem,z0,z1,z2,z3,z4]) rfl (And.intro (by rw [HS.out];exact ⟨a2,n2,k2,_,_,_,rfl,hrZ,kv _,yl HF.out (by omega),mf⟩) bZ)
     ·have hnew':(new != 0)=true:=by simpa using hnew
      have HS:Hid (sw g t h l op who key new st=⟨cnt g,fe l who new,t,h,st,[],0⟩):=by show _=_;unfold sw;rw [if_neg HP.out,if_pos (.inl hnew)]
      clear hnew
      obtain ⟨⟨c0,c1,c2,c3,c4⟩,_⟩:=S.cells
      obtain ⟨d0,d1,d2,d3,d4,d5,d6,d7,d8⟩:=C.cells
      obtain ⟨⟨m0,m1,m2,m3,m4⟩,⟨p0,p1,p2,p3,p4⟩⟩:=T.cells
      obtain ⟨⟨e0,e1,e2,e3,e4⟩,⟨q0,q1,q2,q3,q4⟩⟩:=R.cells
      have HR2:Hid (Row V a2 n2 (fe l who new)):=hr2
      have HF:Hid (Far (w.heap.size+3) a2):=hf2
      clear hr2 hf2 ho2
      go_wp2
      obtain ⟨Z,hZ,z0,z1,z2,z3,z4⟩:=Z5.cells (X:=V) (v0:=.int .i64 (cnt g)) (v1:=.slice a2 n2 k2) (v2:=.int .i64 t) (v3:=.int .i64 h) (v4:=.bool st) R
      have bZ:Below w.heap.size w Z:=by rw [hZ];exact Z5.below bw (by omega)
      have hrZ:Row Z a2 n2 (fe l who new):=by rw [hZ];exact HR2.out.z5 HF.out (by omega)
      unfold Z5 at hZ
      rw [←hZ]
      clear hZ
      exact bodyPost_ret (v:=.tuple #[.agg #[.int .i64 (cnt g),.slice a2 n2 k2,.int .i64 t,.int .i64 h,.bool st],.slice .none 0 0,.nilIface]) (by simp [results,Tryz.results129,go_sem,z0,z1,z2,z3,z4]) rfl (And.intro (by rw [HS.out];exact ⟨a2,n2,k2,_,_,_,rfl,hrZ,kv _,yl HF.out (by omega),mf⟩) bZ)
end Go.Proofs.YtpkhdihoijkamaaGreatDoor
