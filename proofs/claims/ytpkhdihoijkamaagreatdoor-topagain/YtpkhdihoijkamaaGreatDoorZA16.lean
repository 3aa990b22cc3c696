/- Several texts of this seat in one: TBox, TDuo, TTake0, TTake1, TTake2, TTake3, TTake. No statement of the seat is proved here. -/
import Derived.Test.YtpkhdihoijkamaaGreatDoorZA15
import Derived.Deep.RegionWith
import Derived.Deep.DrawnRows
set_option maxHeartbeats 4000000
namespace Go.Proofs.YtpkhdihoijkamaaGreatDoor
open Go.ChangeShapes Go.WideShapes Go.ChangeAt Go.RowKit Go.Deep
attribute [local go_sem ↓] Go.wp_at_zero Go.wp_at_succ
def bx (A:Nat→Option Addr) (N C:Nat→Nat):Value:=.agg #[.slice (A 0) (N 0) (C 0),.slice (A 1) (N 1) (C 1),.slice (A 2) (N 2) (C 2),.slice (A 3) (N 3) (C 3)]
def Fl (w:World) (lo:Nat) (a:Option Addr) (n c:Nat) (l:List Int):Prop:=dz w a n l∧(a=.none→c=0)∧(∀ ad,a=some ad→lo≤ad.block)∧n≤c
def j6 (w:World) (lo:Nat) (A:Nat→Option Addr) (N C:Nat→Nat) (L:Nat→List Int):Prop:=∀ j,j<4→Fl w lo (A j) (N j) (C j) (L j)
def upd {T:Type} (f:Nat→T) (j:Nat) (v:T):Nat→T:=fun k=>if k=j then v else f k
def ni (l:List Int) (x:Int):List Int:=if l.getLast? = some x then l else l.drop (l.length - 4) ++ [x]
theorem ja.fl {w:World} {base:Nat} {v:Value} {l:List Int} (h:ja w base v l):∃ a n c,v=.slice a n c∧Fl w base a n c l:=by
 obtain ⟨a,n,c,rfl,hn⟩:=h.form
 refine ⟨a,n,c,rfl,hn,?_,?_,?_⟩
 ·rintro rfl
  rcases h.2 with ⟨e,_⟩|⟨g,cap,cur,e,_⟩
  ·simp at e;exact e.2
  ·simp at e
 ·rintro ad rfl
  exact h.block ad.block (by simp [Value.ownBlock])
 ·rcases h.2 with ⟨e,_⟩|⟨g,cap,cur,e,_,_,hc,_⟩
  ·simp at e;omega
  ·simp at e;have:=hn.1;omega
theorem Fl.later {w w':World} {lo:Nat} {a:Option Addr} {n c:Nat} {l:List Int} (h:Fl w lo a n c l) (hb:Below w.heap.size w w'):Fl w' lo a n c l:=⟨h.1.later hb,h.2⟩
theorem Fl.mono {w:World} {lo lo':Nat} {a:Option Addr} {n c:Nat} {l:List Int} (h:Fl w lo a n c l) (hl:lo'≤lo):Fl w lo' a n c l:=⟨h.1,h.2.1,fun ad e=>Nat.le_trans hl (h.2.2.1 ad e),h.2.2.2⟩
theorem j6.later {w w':World} {lo:Nat} {A:Nat→Option Addr} {N C:Nat→Nat} {L:Nat→List Int} (h:j6 w lo A N C L) (hb:Below w.heap.size w w'):j6 w' lo A N C L:=fun j hj=>(h j hj).later hb
theorem j6.upd {w w':World} {lo:Nat} {A:Nat→Option Addr} {N C:Nat→Nat} {L:Nat→List Int} {j:Nat} {a:Option Addr} {n c:Nat} {l:List Int} (h:j6 w lo A N C L) (hb:Below w.heap.size w w') (hf:Fl w' lo a n c l):j6 w' lo (upd A j a) (upd N j n) (upd C j c) (upd L j l):=by
 intro k hk
 unfold Go.Proofs.YtpkhdihoijkamaaGreatDoor.upd
 by_cases e:k=j
 ·simp only [if_pos e];exact hf
 ·simp only [if_neg e];exact (h k hk).later hb
def Fresh (z:Nat) (A:Nat→Option Addr) (N:Nat→Nat) (A':Nat→Option Addr) (N':Nat→Nat):Prop:=∀ i,(A' i=A i∧N' i=N i)∨∀ ad,A' i=some ad→z≤ad.block
theorem su {z:Nat} {A:Nat→Option Addr} {N:Nat→Nat} {j:Nat} {a:Option Addr} {n:Nat} (h:∀ ad,a=some ad→z≤ad.block):Fresh z A N (upd A j a) (upd N j n):=by
 intro i
 unfold upd
 split
 ·exact .inr h
 ·exact .inl ⟨rfl,rfl⟩
theorem aap {z:Nat} {A:Nat→Option Addr} {N:Nat→Nat} {j:Nat} {a:Option Addr} {n:Nat} (h:A j=a) (h':N j=n):Fresh z A N (upd A j a) (upd N j n):=by
 intro i
 unfold upd
 split
 ·left;subst_vars;exact ⟨rfl,rfl⟩
 ·exact .inl ⟨rfl,rfl⟩
theorem dz.drop {w:World} {b off n:Nat} {l:List Int} (h:dz w (some ⟨b,off,.none⟩) n l) (k:Nat) (hk:k≤n):dz w (some ⟨b,off+k,.none⟩) (n - k) (l.drop k):=by
 refine ⟨by simp [h.1],by have:=h.2.1;omega,fun hn=>⟨b,off+k,rfl,fun i hi=>?_⟩⟩
 obtain ⟨b',off',e,hc⟩:=h.2.2 (by omega)
 simp only [Option.some.injEq,Addr.mk.injEq,and_true] at e
 obtain ⟨rfl,rfl⟩:=e
 have hi':k+i<l.length:=by simp at hi;omega
 have:=hc (k+i) hi'
 rw [List.getElem_drop,←this,Nat.add_assoc]
theorem upd_same {T:Type} (f:Nat→T) (j:Nat):upd f j (f j)=f:=by
 funext k
 unfold upd
 split
 ·subst_vars;rfl
 ·rfl
def Trio (X:World) (N:Nat) (v0 v1 v2 v3:Value) (who what:Int):Prop :=
 X.heap[N]? = some (.cells #[v0,v1,v2,v3] 103 (0,0))∧X.heap[N+1]? = some (.cells #[.int .i64 who,.int .i64 what] 171 (0,0))∧X.heap[N+1+1]? = some (.cells #[.slice .none 0 0,.slice .none 0 0,.slice .none 0 0,.slice .none 0 0] 103 (0,0))
def trioW (w:World) (v0 v1 v2 v3:Value) (who what:Int):World:=((w.alloc (.cells #[v0,v1,v2,v3] 103)).alloc (.cells #[.int .i64 who,.int .i64 what] 171)).alloc (.cells #[.slice .none 0 0,.slice .none 0 0,.slice .none 0 0,.slice .none 0 0] 103)
theorem Trio.start (w:World) (v0 v1 v2 v3:Value) (who what:Int):Trio (trioW w v0 v1 v2 v3 who what) w.heap.size v0 v1 v2 v3 who what:=by
 unfold trioW
 refine ⟨?_,?_,?_⟩
 ·rw [Below.heap_alloc _ _ _ (by simp;omega),Below.heap_alloc _ _ _ (by simp)];exact heap_alloc_new w _
 ·rw [Below.heap_alloc _ _ _ (by simp)];simpa using heap_alloc_new (w.alloc (.cells #[v0,v1,v2,v3] 103)) (.cells #[.int .i64 who,.int .i64 what] 171)
 ·simpa using heap_alloc_new ((w.alloc (.cells #[v0,v1,v2,v3] 103)).alloc (.cells #[.int .i64 who,.int .i64 what] 171)) (.cells #[.slice .none 0 0,.slice .none 0 0,.slice .none 0 0,.slice .none 0 0] 103)
theorem Trio.below (w:World) (v0 v1 v2 v3:Value) (who what:Int):Below w.heap.size w (trioW w v0 v1 v2 v3 who what)∧(trioW w v0 v1 v2 v3 who what).heap.size=w.heap.size+3 :=
 ⟨(((Below.refl _ _).alloc (Nat.le_refl _) _).alloc (by simp) _).alloc (by simp;omega) _,by simp [trioW]⟩
theorem Trio.later {X X':World} {N B:Nat} {v0 v1 v2 v3:Value} {who what:Int} (h:Trio X N v0 v1 v2 v3 who what) (hb:Below B X X') (hB:N+3≤B):Trio X' N v0 v1 v2 v3 who what:=by
 obtain ⟨h1,h2,h3⟩:=h
 exact ⟨by rw [hb.block _ (by omega)];exact h1,by rw [hb.block _ (by omega)];exact h2,by rw [hb.block _ (by omega)];exact h3⟩
theorem Trio.cells {X:World} {N:Nat} {v0 v1 v2 v3:Value} {who what:Int} (h:Trio X N v0 v1 v2 v3 who what) :
 (X.cell? ⟨N,0,.none⟩=some v0∧X.cell? ⟨N,1,.none⟩=some v1∧X.cell? ⟨N,2,.none⟩=some v2∧X.cell? ⟨N,3,.none⟩=some v3) ∧
 (X.cell? ⟨N+1,0,.none⟩=some (.int .i64 who)∧X.cell? ⟨N+1,1,.none⟩=some (.int .i64 what)) ∧
 (X.cell? ⟨N+1+1,0,.none⟩=some (.slice .none 0 0)∧X.cell? ⟨N+1+1,1,.none⟩=some (.slice .none 0 0)∧X.cell? ⟨N+1+1,2,.none⟩=some (.slice .none 0 0)∧X.cell? ⟨N+1+1,3,.none⟩=some (.slice .none 0 0)) ∧
 (X.frozen? ⟨N,0,.none⟩=false∧X.frozen? ⟨N,1,.none⟩=false∧X.frozen? ⟨N,2,.none⟩=false∧X.frozen? ⟨N,3,.none⟩=false) ∧
 (X.frozen? ⟨N+1+1,0,.none⟩=false∧X.frozen? ⟨N+1+1,1,.none⟩=false∧X.frozen? ⟨N+1+1,2,.none⟩=false∧X.frozen? ⟨N+1+1,3,.none⟩=false):=by
 obtain ⟨h1,h2,h3⟩:=h
 simp [World.cell?,World.frozen?,h1,h2,h3]
theorem Fl.set {w:World} {lo:Nat} {a:Option Addr} {n c:Nat} {l:List Int} (h:Fl w lo a n c l) (p:Addr) (hp:p.block<lo) (u:Value):Fl (w.setCell p u) lo a n c l:=by
 refine ⟨⟨h.1.1,h.1.2.1,fun hn=>?_⟩,h.2⟩
 obtain ⟨b,off,rfl,hc⟩:=h.1.2.2 hn
 have hb:lo≤b:=h.2.2.1 _ rfl
 have hne:b≠p.block:=by omega
 refine ⟨b,off,rfl,fun i hi=>?_⟩
 rw [World.cell?_of_block (w:=w) (Below.heap_setCell _ _ _ _ hne)]
 exact hc i hi
def TZ (X:World) (N M J:Nat) (u v0 v1 v2 v3:Value):World :=
 ((((X.setCell ⟨N,J,.none⟩ u).setCell ⟨M,0,.none⟩ v0).setCell ⟨M,1,.none⟩ v1).setCell ⟨M,2,.none⟩ v2).setCell ⟨M,3,.none⟩ v3
theorem TZ.cells {X:World} {N M J:Nat} {u0 u1 u2 u3 u v0 v1 v2 v3:Value} {T:TypeId} (h:X.heap[M]? = some (.cells #[u0,u1,u2,u3] T (0,0))) (hne:M≠N):∃ Z,Z=TZ X N M J u v0 v1 v2 v3 ∧
 Z.cell? ⟨M,0,.none⟩=some v0∧Z.cell? ⟨M,1,.none⟩=some v1∧Z.cell? ⟨M,2,.none⟩=some v2∧Z.cell? ⟨M,3,.none⟩=some v3:=by
 have h':(X.setCell ⟨N,J,.none⟩ u).heap[M]? = some (.cells #[u0,u1,u2,u3] T (0,0)):=by rw [Below.heap_setCell _ _ _ _ hne];exact h
 have h0:=heap_setCell_same _ M 0 _ T v0 h'
 have h1:=heap_setCell_same _ M 1 _ T v1 h0
 have h2:=heap_setCell_same _ M 2 _ T v2 h1
 have h3:=heap_setCell_same _ M 3 _ T v3 h2
 refine ⟨_,rfl,?_,?_,?_,?_⟩ <;> (unfold TZ;simp only [World.cell?,h3];simp)
theorem TZ.fl {X:World} {N M J lo:Nat} {u v0 v1 v2 v3:Value} {a:Option Addr} {n c:Nat} {l:List Int} (h:Fl X lo a n c l) (hN:N<lo) (hM:M<lo):Fl (TZ X N M J u v0 v1 v2 v3) lo a n c l :=
 ((((h.set _ hN _).set _ hM _).set _ hM _).set _ hM _).set _ hM _
theorem TZ.below {w X:World} {N M J B:Nat} {u v0 v1 v2 v3:Value} (h:Below B w X) (hN:B≤N) (hM:B≤M):Below B w (TZ X N M J u v0 v1 v2 v3) :=
 ((((h.setCell (by exact hN) _).setCell (by exact hM) _).setCell (by exact hM) _).setCell (by exact hM) _).setCell (by exact hM) _
def TK (X:World) (M:Nat) (v0 v1 v2 v3:Value):World :=
 (((X.setCell ⟨M,0,.none⟩ v0).setCell ⟨M,1,.none⟩ v1).setCell ⟨M,2,.none⟩ v2).setCell ⟨M,3,.none⟩ v3
theorem TK.cells {X:World} {M:Nat} {u0 u1 u2 u3 v0 v1 v2 v3:Value} {T:TypeId} (h:X.heap[M]? = some (.cells #[u0,u1,u2,u3] T (0,0))):∃ Z,Z=TK X M v0 v1 v2 v3 ∧
 Z.cell? ⟨M,0,.none⟩=some v0∧Z.cell? ⟨M,1,.none⟩=some v1∧Z.cell? ⟨M,2,.none⟩=some v2∧Z.cell? ⟨M,3,.none⟩=some v3:=by
 have h0:=heap_setCell_same _ M 0 _ T v0 h
 have h1:=heap_setCell_same _ M 1 _ T v1 h0
 have h2:=heap_setCell_same _ M 2 _ T v2 h1
 have h3:=heap_setCell_same _ M 3 _ T v3 h2
 refine ⟨_,rfl,?_,?_,?_,?_⟩ <;> (unfold TK;simp only [World.cell?,h3];simp)
theorem TK.below {w X:World} {M B:Nat} {v0 v1 v2 v3:Value} (h:Below B w X) (hM:B≤M):Below B w (TK X M v0 v1 v2 v3) :=
 (((h.setCell (by exact hM) _).setCell (by exact hM) _).setCell (by exact hM) _).setCell (by exact hM) _
theorem yw (X:World) (z q:Nat) (hz:X.heap.size=z) (what:Int) (a5:Option Addr) (n5 c5:Nat) (l5:List Int) (H5:dz X a5 n5 l5) (H6:a5=.none→c5=0) (hn:n5≤1000) :
 Calls Tryz.prog 135 #[.slice (some ⟨z+1,0,.none⟩) 2 2] (((X.drewN q).alloc (.cells #[.int .i64 what] 3)).alloc (.cells #[.slice a5 n5 c5,.slice (some ⟨z,0,.none⟩) 1 1] 25)) fun e w' =>
  ∃ a n c,e=.returned (.slice a n c)∧Fl w' z a n c (l5 ++ [what])∧Below z X w':=by
 subst hz
 have bX:Below X.heap.size X (((X.drewN q).alloc (.cells #[.int .i64 what] 3)).alloc (.cells #[.slice a5 n5 c5,.slice (some ⟨X.heap.size,0,.none⟩) 1 1] 25)) :=
  ((below_drewN (Below.refl _ _) q).alloc (by simp) _).alloc (by simp) _
 have h0:(((X.drewN q).alloc (.cells #[.int .i64 what] 3)).alloc (.cells #[.slice a5 n5 c5,.slice (some ⟨X.heap.size,0,.none⟩) 1 1] 25)).heap[X.heap.size]? = some (.cells #[.int .i64 what] 3 (0,0)):=by
  rw [Below.heap_alloc _ _ _ (by simp)];simpa using heap_alloc_new (X.drewN q) (.cells #[.int .i64 what] 3)
 have h1:(((X.drewN q).alloc (.cells #[.int .i64 what] 3)).alloc (.cells #[.slice a5 n5 c5,.slice (some ⟨X.heap.size,0,.none⟩) 1 1] 25)).heap[X.heap.size+1]? = some (.cells #[.slice a5 n5 c5,.slice (some ⟨X.heap.size,0,.none⟩) 1 1] 25 (0,0)):=by
  simpa using heap_alloc_new ((X.drewN q).alloc (.cells #[.int .i64 what] 3)) (.cells #[.slice a5 n5 c5,.slice (some ⟨X.heap.size,0,.none⟩) 1 1] 25)
 generalize (((X.drewN q).alloc (.cells #[.int .i64 what] 3)).alloc (.cells #[.slice a5 n5 c5,.slice (some ⟨X.heap.size,0,.none⟩) 1 1] 25))=Y at *
 refine (concat_two (X.heap.size+1) 2 a5 (some ⟨X.heap.size,0,.none⟩) n5 c5 1 1 l5 [what] Y (by simp [World.cell?,h1]) (by simp [World.cell?,h1]) (H5.later bX)
  ⟨rfl,by decide,fun _=>⟨X.heap.size,0,rfl,fun i hi=>by
   have:i=0:=by simp at hi;omega
   subst this
   simp [World.cell?,h0]⟩⟩ H6 (fun h=>by cases h) hn (by decide) (by decide)).mono ?_
 rintro e w' ⟨v,rfl,ho,hb⟩
 obtain ⟨a,n,c,rfl,hf⟩:=ho.fl
 exact ⟨a,n,c,rfl,hf.mono bX.size,bX.trans (hb.mono bX.size)⟩
end Go.Proofs.YtpkhdihoijkamaaGreatDoor
namespace Go.Proofs.YtpkhdihoijkamaaGreatDoor
open Go.ChangeShapes Go.WideShapes Go.ChangeAt Go.RowKit Go.Deep
def jf:List Int→Int
 | []=>0
 | x :: _=>x
theorem headL_at:∀ (l:List Int) (h:0<l.length),jf l=l[0]
 | _ :: _,_=>rfl
theorem TK.fl {X:World} {M lo:Nat} {v0 v1 v2 v3:Value} {a:Option Addr} {n c:Nat} {l:List Int} (h:Fl X lo a n c l) (hM:M<lo):Fl (TK X M v0 v1 v2 v3) lo a n c l :=
 (((h.set _ hM _).set _ hM _).set _ hM _).set _ hM _
def Duo (X:World) (N:Nat) (v0 v1 v2 v3:Value):Prop :=
 X.heap[N]? = some (.cells #[v0,v1,v2,v3] 103 (0,0))∧X.heap[N+1]? = some (.cells #[.slice .none 0 0,.slice .none 0 0,.slice .none 0 0,.slice .none 0 0] 103 (0,0))
def duoW (w:World) (v0 v1 v2 v3:Value):World:=(w.alloc (.cells #[v0,v1,v2,v3] 103)).alloc (.cells #[.slice .none 0 0,.slice .none 0 0,.slice .none 0 0,.slice .none 0 0] 103)
theorem Duo.start (w:World) (v0 v1 v2 v3:Value):Duo (duoW w v0 v1 v2 v3) w.heap.size v0 v1 v2 v3:=by
 unfold duoW
 refine ⟨?_,?_⟩
 ·rw [Below.heap_alloc _ _ _ (by simp)];exact heap_alloc_new w _
 ·simpa using heap_alloc_new (w.alloc (.cells #[v0,v1,v2,v3] 103)) (.cells #[.slice .none 0 0,.slice .none 0 0,.slice .none 0 0,.slice .none 0 0] 103)
theorem Duo.below (w:World) (v0 v1 v2 v3:Value):Below w.heap.size w (duoW w v0 v1 v2 v3)∧(duoW w v0 v1 v2 v3).heap.size=w.heap.size+2 :=
 ⟨((Below.refl _ _).alloc (Nat.le_refl _) _).alloc (by simp) _,by simp [duoW]⟩
theorem Duo.later {X X':World} {N B:Nat} {v0 v1 v2 v3:Value} (h:Duo X N v0 v1 v2 v3) (hb:Below B X X') (hB:N+2≤B):Duo X' N v0 v1 v2 v3:=by
 obtain ⟨h1,h2⟩:=h
 exact ⟨by rw [hb.block _ (by omega)];exact h1,by rw [hb.block _ (by omega)];exact h2⟩
theorem Duo.cells {X:World} {N:Nat} {v0 v1 v2 v3:Value} (h:Duo X N v0 v1 v2 v3) :
 (X.cell? ⟨N,0,.none⟩=some v0∧X.cell? ⟨N,1,.none⟩=some v1∧X.cell? ⟨N,2,.none⟩=some v2∧X.cell? ⟨N,3,.none⟩=some v3) ∧
 (X.cell? ⟨N+1,0,.none⟩=some (.slice .none 0 0)∧X.cell? ⟨N+1,1,.none⟩=some (.slice .none 0 0)∧X.cell? ⟨N+1,2,.none⟩=some (.slice .none 0 0)∧X.cell? ⟨N+1,3,.none⟩=some (.slice .none 0 0)) ∧
 (X.frozen? ⟨N,0,.none⟩=false∧X.frozen? ⟨N,1,.none⟩=false∧X.frozen? ⟨N,2,.none⟩=false∧X.frozen? ⟨N,3,.none⟩=false) ∧
 (X.frozen? ⟨N+1,0,.none⟩=false∧X.frozen? ⟨N+1,1,.none⟩=false∧X.frozen? ⟨N+1,2,.none⟩=false∧X.frozen? ⟨N+1,3,.none⟩=false):=by
 obtain ⟨h1,h2⟩:=h
 simp [World.cell?,World.frozen?,h1,h2]
attribute [local go_sem ↓] Go.wp_at_zero Go.wp_at_succ
theorem take_0 (A:Nat→Option Addr) (N C:Nat→Nat) (L:Nat→List Int) (lo:Nat) (w:World) (hB:j6 w lo A N C L) (hlo:lo≤w.heap.size) (hL:∀ j,j<4→(L j).length≤900) :
 Calls Tryz.prog 68 #[bx A N C,.int .i64 1] w fun e w'=>∃ A' N' C',e=.returned (.tuple #[bx A' N' C',.int .i64 (jf (L 0))])∧j6 w' lo A' N' C' (upd L 0 (L 0).tail)∧Below w.heap.size w w'∧Fresh w.heap.size A N A' N':=by
 have hF:=hB 0 (by decide)
 have hlen:=hL 0 (by decide)
 have hln:=hF.1.1
 have hcap:=hF.2.2.2
 obtain ⟨bw0,hs0⟩:=Duo.below w (.slice (A 0) (N 0) (C 0)) (.slice (A 1) (N 1) (C 1)) (.slice (A 2) (N 2) (C 2)) (.slice (A 3) (N 3) (C 3))
 have T0:=Duo.start w (.slice (A 0) (N 0) (C 0)) (.slice (A 1) (N 1) (C 1)) (.slice (A 2) (N 2) (C 2)) (.slice (A 3) (N 3) (C 3))
 unfold bx
 go_enter Tryz.func68,Tryz.ntmps68
 go_wp2_with fail
 refine (aak 1 _).mono ?_
 rintro e w1 ⟨rfl,rfl⟩
 rw [show ∀ v0 v1 v2 v3,(w.alloc (.cells #[v0,v1,v2,v3] 103)).alloc (.cells #[.slice .none 0 0,.slice .none 0 0,.slice .none 0 0,.slice .none 0 0] 103)=duoW w v0 v1 v2 v3 from fun _ _ _ _=>rfl]
 generalize hX:duoW w (.slice (A 0) (N 0) (C 0)) (.slice (A 1) (N 1) (C 1)) (.slice (A 2) (N 2) (C 2)) (.slice (A 3) (N 3) (C 3))=X at *
 obtain ⟨⟨c0,c1,c2,c3⟩,⟨e0,e1,e2,e3⟩,⟨f0,f1,f2,f3⟩,⟨q0,q1,q2,q3⟩⟩:=T0.cells
 by_cases hn0:N 0=0
 ·have hl0:L 0=[]:=List.eq_nil_of_length_eq_zero (by omega)
  rw [hn0] at c0
  go_wp2
  obtain ⟨Z,hZ,z0,z1,z2,z3⟩:=TK.cells (X:=X) (v0:=Value.slice (A 0) 0 (C 0)) (v1:=Value.slice (A 1) (N 1) (C 1)) (v2:=Value.slice (A 2) (N 2) (C 2)) (v3:=Value.slice (A 3) (N 3) (C 3)) T0.2
  have hZ':=hZ
  unfold TK at hZ'
  rw [←hZ']
  clear hZ'
  have bZ:Below w.heap.size w Z:=by rw [hZ];exact TK.below bw0 (by omega)
  clear hZ
  refine bodyPost_ret (v:=.tuple #[.agg #[Value.slice (A 0) 0 (C 0),Value.slice (A 1) (N 1) (C 1),Value.slice (A 2) (N 2) (C 2),Value.slice (A 3) (N 3) (C 3)],.int .i64 0]) (by simp [results,Tryz.results68,go_sem,z0,z1,z2,z3]) rfl ⟨A,upd N 0 0,C,by rw [hl0];rfl,?_,bZ,by have q:=aap (z:=w.heap.size) (A:=A) (N:=N) (j:=0) rfl hn0;rwa [upd_same A 0] at q⟩
  have hFz:=hF.later bZ
  rw [hn0,hl0] at hFz
  rw [hl0]
  exact upd_same C 0▸upd_same A 0▸hB.upd bZ hFz
 ·obtain ⟨m,hm⟩:∃ m,N 0=m+1:=⟨N 0 - 1,by omega⟩
  obtain ⟨b,off,ha,hc⟩:=(hF.1.later bw0).2.2 hn0
  have hNX:Hid (dz X (some ⟨b,off,.none⟩) (m+1) (L 0)):=by have:=hF.1.later bw0;rw [ha,hm] at this;exact this
  have hfirst:=hc 0 (by omega)
  have hfirstw:w.cell? ⟨b,off,.none⟩=some (.int .i64 (L 0)[0]):=by
   obtain ⟨b',off',e,hcw⟩:=hF.1.2.2 hn0
   rw [ha] at e
   simp only [Option.some.injEq,Addr.mk.injEq,and_true] at e
   obtain ⟨rfl,rfl⟩:=e
   exact hcw 0 (by omega)
  rw [ha,hm] at c0
  clear hc
  have HH:Hid (jf (L 0)=(L 0)[0]):=headL_at _ (by omega)
  by_cases hC1:C 0=1
  ·rw [hC1] at c0
   have HN1:Hid (dz X (some ⟨b,off,.none⟩) m (L 0).tail):=⟨by simp;omega,by omega,fun h=>absurd (by omega) h⟩
   go_wp2_with fail
   refine (aau _ m _ (L 0).tail X HN1.out (by omega)).mono ?_
   rintro e w3 ⟨v3,rfl,ho3,hb3⟩
   obtain ⟨a3,n3,c3',rfl,hf3⟩:=ho3.fl
   have hb3':=hb3.mono (Nat.le_of_eq hs0.symm)
   have hf3':=hf3.mono (Nat.le_of_eq hs0.symm)
   have T3:=T0.later hb3' (Nat.le_refl _)
   have bw3:=bw0.trans (hb3'.mono (by omega))
   clear T0 c0 c1 c2 c3 e0 e1 e2 e3 f0 f1 f2 f3 q0 q1 q2 q3 hfirst
   obtain ⟨⟨c0,c1,c2,c3⟩,⟨e0,e1,e2,e3⟩,⟨f0,f1,f2,f3⟩,⟨q0,q1,q2,q3⟩⟩:=T3.cells
   go_wp2
   obtain ⟨Y,hY⟩:∃ Y,Y=w3.setCell ⟨w.heap.size,0,.none⟩ (.slice a3 n3 c3'):=⟨_,rfl⟩
   have TY:Duo Y w.heap.size (Value.slice a3 n3 c3') (Value.slice (A 1) (N 1) (C 1)) (Value.slice (A 2) (N 2) (C 2)) (Value.slice (A 3) (N 3) (C 3)):=by
    rw [hY]
    exact ⟨heap_setCell_same _ _ 0 _ _ _ T3.1,by rw [Below.heap_setCell _ _ _ _ (by show w.heap.size+1≠w.heap.size;omega)];exact T3.2⟩
   have bY:Below w.heap.size w Y:=by rw [hY];exact bw3.setCell (Nat.le_refl _) _
   have fY:Fl Y (w.heap.size+2) a3 n3 c3' (L 0).tail:=by rw [hY];exact hf3'.set _ (by show w.heap.size<w.heap.size+2;omega) _
   have hfirst:=cell_later bY hfirstw
   rw [←hY]
   clear T3 c0 c1 c2 c3 e0 e1 e2 e3 f0 f1 f2 f3 q0 q1 q2 q3 hY
   obtain ⟨⟨c0,c1,c2,c3⟩,⟨e0,e1,e2,e3⟩,⟨f0,f1,f2,f3⟩,⟨q0,q1,q2,q3⟩⟩:=TY.cells
   have hfz:=cell_later (TK.below (M:=w.heap.size+1) (v0:=Value.slice a3 n3 c3') (v1:=Value.slice (A 1) (N 1) (C 1)) (v2:=Value.slice (A 2) (N 2) (C 2)) (v3:=Value.slice (A 3) (N 3) (C 3)) bY (by omega)) hfirstw
   unfold TK at hfz
   go_region
   all_goals
    go_wp2
    obtain ⟨Z,hZ,z0,z1,z2,z3⟩:=TK.cells (X:=Y) (v0:=Value.slice a3 n3 c3') (v1:=Value.slice (A 1) (N 1) (C 1)) (v2:=Value.slice (A 2) (N 2) (C 2)) (v3:=Value.slice (A 3) (N 3) (C 3)) TY.2
    have bZ:Below w.heap.size w Z.drew:=by rw [hZ];exact (TK.below bY (by omega)).drew
    have fZ:Fl Z.drew (w.heap.size+2) a3 n3 c3' (L 0).tail:=by rw [hZ];exact (TK.fl fY (by omega)).later (Below.refl _ _).drew
    have hZ':=hZ
    unfold TK at hZ'
    rw [←hZ']
    clear hZ' hZ
    refine bodyPost_ret (v:=.tuple #[.agg #[Value.slice a3 n3 c3',Value.slice (A 1) (N 1) (C 1),Value.slice (A 2) (N 2) (C 2),Value.slice (A 3) (N 3) (C 3)],.int .i64 (L 0)[0]]) (by simp [results,Tryz.results68,go_sem,z0,z1,z2,z3]) rfl ⟨upd A 0 a3,upd N 0 n3,upd C 0 c3',by rw [HH.out];rfl,?_,bZ,su fun ad e=>Nat.le_trans (by omega) (fZ.2.2.1 ad e)⟩
    exact hB.upd bZ (fZ.mono (by omega))
  ·have HN1:Hid (dz X (some ⟨b,off+1,.none⟩) m (L 0).tail):=by have:=hNX.out.drop 1 (by omega);rw [List.drop_one] at this;exact this
   go_wp2_with fail
   refine (aau _ m _ (L 0).tail X HN1.out (by omega)).mono ?_
   rintro e w3 ⟨v3,rfl,ho3,hb3⟩
   obtain ⟨a3,n3,c3',rfl,hf3⟩:=ho3.fl
   have hb3':=hb3.mono (Nat.le_of_eq hs0.symm)
   have hf3':=hf3.mono (Nat.le_of_eq hs0.symm)
   have T3:=T0.later hb3' (Nat.le_refl _)
   have bw3:=bw0.trans (hb3'.mono (by omega))
   clear T0 c0 c1 c2 c3 e0 e1 e2 e3 f0 f1 f2 f3 q0 q1 q2 q3 hfirst
   obtain ⟨⟨c0,c1,c2,c3⟩,⟨e0,e1,e2,e3⟩,⟨f0,f1,f2,f3⟩,⟨q0,q1,q2,q3⟩⟩:=T3.cells
   go_wp2
   obtain ⟨Y,hY⟩:∃ Y,Y=w3.setCell ⟨w.heap.size,0,.none⟩ (.slice a3 n3 c3'):=⟨_,rfl⟩
   have TY:Duo Y w.heap.size (Value.slice a3 n3 c3') (Value.slice (A 1) (N 1) (C 1)) (Value.slice (A 2) (N 2) (C 2)) (Value.slice (A 3) (N 3) (C 3)):=by
    rw [hY]
    exact ⟨heap_setCell_same _ _ 0 _ _ _ T3.1,by rw [Below.heap_setCell _ _ _ _ (by show w.heap.size+1≠w.heap.size;omega)];exact T3.2⟩
   have bY:Below w.heap.size w Y:=by rw [hY];exact bw3.setCell (Nat.le_refl _) _
   have fY:Fl Y (w.heap.size+2) a3 n3 c3' (L 0).tail:=by rw [hY];exact hf3'.set _ (by show w.heap.size<w.heap.size+2;omega) _
   have hfirst:=cell_later bY hfirstw
   rw [←hY]
   clear T3 c0 c1 c2 c3 e0 e1 e2 e3 f0 f1 f2 f3 q0 q1 q2 q3 hY
   obtain ⟨⟨c0,c1,c2,c3⟩,⟨e0,e1,e2,e3⟩,⟨f0,f1,f2,f3⟩,⟨q0,q1,q2,q3⟩⟩:=TY.cells
   have hfz:=cell_later (TK.below (M:=w.heap.size+1) (v0:=Value.slice a3 n3 c3') (v1:=Value.slice (A 1) (N 1) (C 1)) (v2:=Value.slice (A 2) (N 2) (C 2)) (v3:=Value.slice (A 3) (N 3) (C 3)) bY (by omega)) hfirstw
   unfold TK at hfz
   go_region
   all_goals
    go_wp2
    obtain ⟨Z,hZ,z0,z1,z2,z3⟩:=TK.cells (X:=Y) (v0:=Value.slice a3 n3 c3') (v1:=Value.slice (A 1) (N 1) (C 1)) (v2:=Value.slice (A 2) (N 2) (C 2)) (v3:=Value.slice (A 3) (N 3) (C 3)) TY.2
    have bZ:Below w.heap.size w Z.drew:=by rw [hZ];exact (TK.below bY (by omega)).drew
    have fZ:Fl Z.drew (w.heap.size+2) a3 n3 c3' (L 0).tail:=by rw [hZ];exact (TK.fl fY (by omega)).later (Below.refl _ _).drew
    have hZ':=hZ
    unfold TK at hZ'
    rw [←hZ']
    clear hZ' hZ
    refine bodyPost_ret (v:=.tuple #[.agg #[Value.slice a3 n3 c3',Value.slice (A 1) (N 1) (C 1),Value.slice (A 2) (N 2) (C 2),Value.slice (A 3) (N 3) (C 3)],.int .i64 (L 0)[0]]) (by simp [results,Tryz.results68,go_sem,z0,z1,z2,z3]) rfl ⟨upd A 0 a3,upd N 0 n3,upd C 0 c3',by rw [HH.out];rfl,?_,bZ,su fun ad e=>Nat.le_trans (by omega) (fZ.2.2.1 ad e)⟩
    exact hB.upd bZ (fZ.mono (by omega))
end Go.Proofs.YtpkhdihoijkamaaGreatDoor
namespace Go.Proofs.YtpkhdihoijkamaaGreatDoor
open Go.ChangeShapes Go.WideShapes Go.ChangeAt Go.RowKit Go.Deep
attribute [local go_sem ↓] Go.wp_at_zero Go.wp_at_succ
theorem take_1 (A:Nat→Option Addr) (N C:Nat→Nat) (L:Nat→List Int) (lo:Nat) (w:World) (hB:j6 w lo A N C L) (hlo:lo≤w.heap.size) (hL:∀ j,j<4→(L j).length≤900) :
 Calls Tryz.prog 68 #[bx A N C,.int .i64 2] w fun e w'=>∃ A' N' C',e=.returned (.tuple #[bx A' N' C',.int .i64 (jf (L 1))])∧j6 w' lo A' N' C' (upd L 1 (L 1).tail)∧Below w.heap.size w w'∧Fresh w.heap.size A N A' N':=by
 have hF:=hB 1 (by decide)
 have hlen:=hL 1 (by decide)
 have hln:=hF.1.1
 have hcap:=hF.2.2.2
 obtain ⟨bw0,hs0⟩:=Duo.below w (.slice (A 0) (N 0) (C 0)) (.slice (A 1) (N 1) (C 1)) (.slice (A 2) (N 2) (C 2)) (.slice (A 3) (N 3) (C 3))
 have T0:=Duo.start w (.slice (A 0) (N 0) (C 0)) (.slice (A 1) (N 1) (C 1)) (.slice (A 2) (N 2) (C 2)) (.slice (A 3) (N 3) (C 3))
 unfold bx
 go_enter Tryz.func68,Tryz.ntmps68
 go_wp2_with fail
 refine (aak 2 _).mono ?_
 rintro e w1 ⟨rfl,rfl⟩
 rw [show ∀ v0 v1 v2 v3,(w.alloc (.cells #[v0,v1,v2,v3] 103)).alloc (.cells #[.slice .none 0 0,.slice .none 0 0,.slice .none 0 0,.slice .none 0 0] 103)=duoW w v0 v1 v2 v3 from fun _ _ _ _=>rfl]
 generalize hX:duoW w (.slice (A 0) (N 0) (C 0)) (.slice (A 1) (N 1) (C 1)) (.slice (A 2) (N 2) (C 2)) (.slice (A 3) (N 3) (C 3))=X at *
 obtain ⟨⟨c0,c1,c2,c3⟩,⟨e0,e1,e2,e3⟩,⟨f0,f1,f2,f3⟩,⟨q0,q1,q2,q3⟩⟩:=T0.cells
 by_cases hn0:N 1=0
 ·have hl0:L 1=[]:=List.eq_nil_of_length_eq_zero (by omega)
  rw [hn0] at c1
  go_wp2
  obtain ⟨Z,hZ,z0,z1,z2,z3⟩:=TK.cells (X:=X) (v0:=Value.slice (A 0) (N 0) (C 0)) (v1:=Value.slice (A 1) 0 (C 1)) (v2:=Value.slice (A 2) (N 2) (C 2)) (v3:=Value.slice (A 3) (N 3) (C 3)) T0.2
  have hZ':=hZ
  unfold TK at hZ'
  rw [←hZ']
  clear hZ'
  have bZ:Below w.heap.size w Z:=by rw [hZ];exact TK.below bw0 (by omega)
  clear hZ
  refine bodyPost_ret (v:=.tuple #[.agg #[Value.slice (A 0) (N 0) (C 0),Value.slice (A 1) 0 (C 1),Value.slice (A 2) (N 2) (C 2),Value.slice (A 3) (N 3) (C 3)],.int .i64 0]) (by simp [results,Tryz.results68,go_sem,z0,z1,z2,z3]) rfl ⟨A,upd N 1 0,C,by rw [hl0];rfl,?_,bZ,by have q:=aap (z:=w.heap.size) (A:=A) (N:=N) (j:=1) rfl hn0;rwa [upd_same A 1] at q⟩
  have hFz:=hF.later bZ
  rw [hn0,hl0] at hFz
  rw [hl0]
  exact upd_same C 1▸upd_same A 1▸hB.upd bZ hFz
 ·obtain ⟨m,hm⟩:∃ m,N 1=m+1:=⟨N 1 - 1,by omega⟩
  obtain ⟨b,off,ha,hc⟩:=(hF.1.later bw0).2.2 hn0
  have hNX:Hid (dz X (some ⟨b,off,.none⟩) (m+1) (L 1)):=by have:=hF.1.later bw0;rw [ha,hm] at this;exact this
  have hfirst:=hc 0 (by omega)
  have hfirstw:w.cell? ⟨b,off,.none⟩=some (.int .i64 (L 1)[0]):=by
   obtain ⟨b',off',e,hcw⟩:=hF.1.2.2 hn0
   rw [ha] at e
   simp only [Option.some.injEq,Addr.mk.injEq,and_true] at e
   obtain ⟨rfl,rfl⟩:=e
   exact hcw 0 (by omega)
  rw [ha,hm] at c1
  clear hc
  have HH:Hid (jf (L 1)=(L 1)[0]):=headL_at _ (by omega)
  by_cases hC1:C 1=1
  ·rw [hC1] at c1
   have HN1:Hid (dz X (some ⟨b,off,.none⟩) m (L 1).tail):=⟨by simp;omega,by omega,fun h=>absurd (by omega) h⟩
   go_wp2_with fail
   refine (aau _ m _ (L 1).tail X HN1.out (by omega)).mono ?_
   rintro e w3 ⟨v3,rfl,ho3,hb3⟩
   obtain ⟨a3,n3,c3',rfl,hf3⟩:=ho3.fl
   have hb3':=hb3.mono (Nat.le_of_eq hs0.symm)
   have hf3':=hf3.mono (Nat.le_of_eq hs0.symm)
   have T3:=T0.later hb3' (Nat.le_refl _)
   have bw3:=bw0.trans (hb3'.mono (by omega))
   clear T0 c0 c1 c2 c3 e0 e1 e2 e3 f0 f1 f2 f3 q0 q1 q2 q3 hfirst
   obtain ⟨⟨c0,c1,c2,c3⟩,⟨e0,e1,e2,e3⟩,⟨f0,f1,f2,f3⟩,⟨q0,q1,q2,q3⟩⟩:=T3.cells
   go_wp2
   obtain ⟨Y,hY⟩:∃ Y,Y=w3.setCell ⟨w.heap.size,1,.none⟩ (.slice a3 n3 c3'):=⟨_,rfl⟩
   have TY:Duo Y w.heap.size (Value.slice (A 0) (N 0) (C 0)) (Value.slice a3 n3 c3') (Value.slice (A 2) (N 2) (C 2)) (Value.slice (A 3) (N 3) (C 3)):=by
    rw [hY]
    exact ⟨heap_setCell_same _ _ 1 _ _ _ T3.1,by rw [Below.heap_setCell _ _ _ _ (by show w.heap.size+1≠w.heap.size;omega)];exact T3.2⟩
   have bY:Below w.heap.size w Y:=by rw [hY];exact bw3.setCell (Nat.le_refl _) _
   have fY:Fl Y (w.heap.size+2) a3 n3 c3' (L 1).tail:=by rw [hY];exact hf3'.set _ (by show w.heap.size<w.heap.size+2;omega) _
   have hfirst:=cell_later bY hfirstw
   rw [←hY]
   clear T3 c0 c1 c2 c3 e0 e1 e2 e3 f0 f1 f2 f3 q0 q1 q2 q3 hY
   obtain ⟨⟨c0,c1,c2,c3⟩,⟨e0,e1,e2,e3⟩,⟨f0,f1,f2,f3⟩,⟨q0,q1,q2,q3⟩⟩:=TY.cells
   have hfz:=cell_later (TK.below (M:=w.heap.size+1) (v0:=Value.slice (A 0) (N 0) (C 0)) (v1:=Value.slice a3 n3 c3') (v2:=Value.slice (A 2) (N 2) (C 2)) (v3:=Value.slice (A 3) (N 3) (C 3)) bY (by omega)) hfirstw
   unfold TK at hfz
   go_region
   all_goals
    go_wp2
    obtain ⟨Z,hZ,z0,z1,z2,z3⟩:=TK.cells (X:=Y) (v0:=Value.slice (A 0) (N 0) (C 0)) (v1:=Value.slice a3 n3 c3') (v2:=Value.slice (A 2) (N 2) (C 2)) (v3:=Value.slice (A 3) (N 3) (C 3)) TY.2
    have bZ:Below w.heap.size w Z.drew:=by rw [hZ];exact (TK.below bY (by omega)).drew
    have fZ:Fl Z.drew (w.heap.size+2) a3 n3 c3' (L 1).tail:=by rw [hZ];exact (TK.fl fY (by omega)).later (Below.refl _ _).drew
    have hZ':=hZ
    unfold TK at hZ'
    rw [←hZ']
    clear hZ' hZ
    refine bodyPost_ret (v:=.tuple #[.agg #[Value.slice (A 0) (N 0) (C 0),Value.slice a3 n3 c3',Value.slice (A 2) (N 2) (C 2),Value.slice (A 3) (N 3) (C 3)],.int .i64 (L 1)[0]]) (by simp [results,Tryz.results68,go_sem,z0,z1,z2,z3]) rfl ⟨upd A 1 a3,upd N 1 n3,upd C 1 c3',by rw [HH.out];rfl,?_,bZ,su fun ad e=>Nat.le_trans (by omega) (fZ.2.2.1 ad e)⟩
    exact hB.upd bZ (fZ.mono (by omega))
  ·have HN1:Hid (dz X (some ⟨b,off+1,.none⟩) m (L 1).tail):=by have:=hNX.out.drop 1 (by omega);rw [List.drop_one] at this;exact this
   go_wp2_with fail
   refine (aau _ m _ (L 1).tail X HN1.out (by omega)).mono ?_
   rintro e w3 ⟨v3,rfl,ho3,hb3⟩
   obtain ⟨a3,n3,c3',rfl,hf3⟩:=ho3.fl
   have hb3':=hb3.mono (Nat.le_of_eq hs0.symm)
   have hf3':=hf3.mono (Nat.le_of_eq hs0.symm)
   have T3:=T0.later hb3' (Nat.le_refl _)
   have bw3:=bw0.trans (hb3'.mono (by omega))
   clear T0 c0 c1 c2 c3 e0 e1 e2 e3 f0 f1 f2 f3 q0 q1 q2 q3 hfirst
   obtain ⟨⟨c0,c1,c2,c3⟩,⟨e0,e1,e2,e3⟩,⟨f0,f1,f2,f3⟩,⟨q0,q1,q2,q3⟩⟩:=T3.cells
   go_wp2
   obtain ⟨Y,hY⟩:∃ Y,Y=w3.setCell ⟨w.heap.size,1,.none⟩ (.slice a3 n3 c3'):=⟨_,rfl⟩
   have TY:Duo Y w.heap.size (Value.slice (A 0) (N 0) (C 0)) (Value.slice a3 n3 c3') (Value.slice (A 2) (N 2) (C 2)) (Value.slice (A 3) (N 3) (C 3)):=by
    rw [hY]
    exact ⟨heap_setCell_same _ _ 1 _ _ _ T3.1,by rw [Below.heap_setCell _ _ _ _ (by show w.heap.size+1≠w.heap.size;omega)];exact T3.2⟩
   have bY:Below w.heap.size w Y:=by rw [hY];exact bw3.setCell (Nat.le_refl _) _
   have fY:Fl Y (w.heap.size+2) a3 n3 c3' (L 1).tail:=by rw [hY];exact hf3'.set _ (by show w.heap.size<w.heap.size+2;omega) _
   have hfirst:=cell_later bY hfirstw
   rw [←hY]
   clear T3 c0 c1 c2 c3 e0 e1 e2 e3 f0 f1 f2 f3 q0 q1 q2 q3 hY
   obtain ⟨⟨c0,c1,c2,c3⟩,⟨e0,e1,e2,e3⟩,⟨f0,f1,f2,f3⟩,⟨q0,q1,q2,q3⟩⟩:=TY.cells
   have hfz:=cell_later (TK.below (M:=w.heap.size+1) (v0:=Value.slice (A 0) (N 0) (C 0)) (v1:=Value.slice a3 n3 c3') (v2:=Value.slice (A 2) (N 2) (C 2)) (v3:=Value.slice (A 3) (N 3) (C 3)) bY (by omega)) hfirstw
   unfold TK at hfz
   go_region
   all_goals
    go_wp2
    obtain ⟨Z,hZ,z0,z1,z2,z3⟩:=TK.cells (X:=Y) (v0:=Value.slice (A 0) (N 0) (C 0)) (v1:=Value.slice a3 n3 c3') (v2:=Value.slice (A 2) (N 2) (C 2)) (v3:=Value.slice (A 3) (N 3) (C 3)) TY.2
    have bZ:Below w.heap.size w Z.drew:=by rw [hZ];exact (TK.below bY (by omega)).drew
    have fZ:Fl Z.drew (w.heap.size+2) a3 n3 c3' (L 1).tail:=by rw [hZ];exact (TK.fl fY (by omega)).later (Below.refl _ _).drew
    have hZ':=hZ
    unfold TK at hZ'
    rw [←hZ']
    clear hZ' hZ
    refine bodyPost_ret (v:=.tuple #[.agg #[Value.slice (A 0) (N 0) (C 0),Value.slice a3 n3 c3',Value.slice (A 2) (N 2) (C 2),Value.slice (A 3) (N 3) (C 3)],.int .i64 (L 1)[0]]) (by simp [results,Tryz.results68,go_sem,z0,z1,z2,z3]) rfl ⟨upd A 1 a3,upd N 1 n3,upd C 1 c3',by rw [HH.out];rfl,?_,bZ,su fun ad e=>Nat.le_trans (by omega) (fZ.2.2.1 ad e)⟩
    exact hB.upd bZ (fZ.mono (by omega))
end Go.Proofs.YtpkhdihoijkamaaGreatDoor
namespace Go.Proofs.YtpkhdihoijkamaaGreatDoor
open Go.ChangeShapes Go.WideShapes Go.ChangeAt Go.RowKit Go.Deep
attribute [local go_sem ↓] Go.wp_at_zero Go.wp_at_succ
theorem take_2 (A:Nat→Option Addr) (N C:Nat→Nat) (L:Nat→List Int) (lo:Nat) (w:World) (hB:j6 w lo A N C L) (hlo:lo≤w.heap.size) (hL:∀ j,j<4→(L j).length≤900) :
 Calls Tryz.prog 68 #[bx A N C,.int .i64 3] w fun e w'=>∃ A' N' C',e=.returned (.tuple #[bx A' N' C',.int .i64 (jf (L 2))])∧j6 w' lo A' N' C' (upd L 2 (L 2).tail)∧Below w.heap.size w w'∧Fresh w.heap.size A N A' N':=by
 have hF:=hB 2 (by decide)
 have hlen:=hL 2 (by decide)
 have hln:=hF.1.1
 have hcap:=hF.2.2.2
 obtain ⟨bw0,hs0⟩:=Duo.below w (.slice (A 0) (N 0) (C 0)) (.slice (A 1) (N 1) (C 1)) (.slice (A 2) (N 2) (C 2)) (.slice (A 3) (N 3) (C 3))
 have T0:=Duo.start w (.slice (A 0) (N 0) (C 0)) (.slice (A 1) (N 1) (C 1)) (.slice (A 2) (N 2) (C 2)) (.slice (A 3) (N 3) (C 3))
 unfold bx
 go_enter Tryz.func68,Tryz.ntmps68
 go_wp2_with fail
 refine (aak 3 _).mono ?_
 rintro e w1 ⟨rfl,rfl⟩
 rw [show ∀ v0 v1 v2 v3,(w.alloc (.cells #[v0,v1,v2,v3] 103)).alloc (.cells #[.slice .none 0 0,.slice .none 0 0,.slice .none 0 0,.slice .none 0 0] 103)=duoW w v0 v1 v2 v3 from fun _ _ _ _=>rfl]
 generalize hX:duoW w (.slice (A 0) (N 0) (C 0)) (.slice (A 1) (N 1) (C 1)) (.slice (A 2) (N 2) (C 2)) (.slice (A 3) (N 3) (C 3))=X at *
 obtain ⟨⟨c0,c1,c2,c3⟩,⟨e0,e1,e2,e3⟩,⟨f0,f1,f2,f3⟩,⟨q0,q1,q2,q3⟩⟩:=T0.cells
 by_cases hn0:N 2=0
 ·have hl0:L 2=[]:=List.eq_nil_of_length_eq_zero (by omega)
  rw [hn0] at c2
  go_wp2
  obtain ⟨Z,hZ,z0,z1,z2,z3⟩:=TK.cells (X:=X) (v0:=Value.slice (A 0) (N 0) (C 0)) (v1:=Value.slice (A 1) (N 1) (C 1)) (v2:=Value.slice (A 2) 0 (C 2)) (v3:=Value.slice (A 3) (N 3) (C 3)) T0.2
  have hZ':=hZ
  unfold TK at hZ'
  rw [←hZ']
  clear hZ'
  have bZ:Below w.heap.size w Z:=by rw [hZ];exact TK.below bw0 (by omega)
  clear hZ
  refine bodyPost_ret (v:=.tuple #[.agg #[Value.slice (A 0) (N 0) (C 0),Value.slice (A 1) (N 1) (C 1),Value.slice (A 2) 0 (C 2),Value.slice (A 3) (N 3) (C 3)],.int .i64 0]) (by simp [results,Tryz.results68,go_sem,z0,z1,z2,z3]) rfl ⟨A,upd N 2 0,C,by rw [hl0];rfl,?_,bZ,by have q:=aap (z:=w.heap.size) (A:=A) (N:=N) (j:=2) rfl hn0;rwa [upd_same A 2] at q⟩
  have hFz:=hF.later bZ
  rw [hn0,hl0] at hFz
  rw [hl0]
  exact upd_same C 2▸upd_same A 2▸hB.upd bZ hFz
 ·obtain ⟨m,hm⟩:∃ m,N 2=m+1:=⟨N 2 - 1,by omega⟩
  obtain ⟨b,off,ha,hc⟩:=(hF.1.later bw0).2.2 hn0
  have hNX:Hid (dz X (some ⟨b,off,.none⟩) (m+1) (L 2)):=by have:=hF.1.later bw0;rw [ha,hm] at this;exact this
  have hfirst:=hc 0 (by omega)
  have hfirstw:w.cell? ⟨b,off,.none⟩=some (.int .i64 (L 2)[0]):=by
   obtain ⟨b',off',e,hcw⟩:=hF.1.2.2 hn0
   rw [ha] at e
   simp only [Option.some.injEq,Addr.mk.injEq,and_true] at e
   obtain ⟨rfl,rfl⟩:=e
   exact hcw 0 (by omega)
  rw [ha,hm] at c2
  clear hc
  have HH:Hid (jf (L 2)=(L 2)[0]):=headL_at _ (by omega)
  by_cases hC1:C 2=1
  ·rw [hC1] at c2
   have HN1:Hid (dz X (some ⟨b,off,.none⟩) m (L 2).tail):=⟨by simp;omega,by omega,fun h=>absurd (by omega) h⟩
   go_wp2_with fail
   refine (aau _ m _ (L 2).tail X HN1.out (by omega)).mono ?_
   rintro e w3 ⟨v3,rfl,ho3,hb3⟩
   obtain ⟨a3,n3,c3',rfl,hf3⟩:=ho3.fl
   have hb3':=hb3.mono (Nat.le_of_eq hs0.symm)
   have hf3':=hf3.mono (Nat.le_of_eq hs0.symm)
   have T3:=T0.later hb3' (Nat.le_refl _)
   have bw3:=bw0.trans (hb3'.mono (by omega))
   clear T0 c0 c1 c2 c3 e0 e1 e2 e3 f0 f1 f2 f3 q0 q1 q2 q3 hfirst
   obtain ⟨⟨c0,c1,c2,c3⟩,⟨e0,e1,e2,e3⟩,⟨f0,f1,f2,f3⟩,⟨q0,q1,q2,q3⟩⟩:=T3.cells
   go_wp2
   obtain ⟨Y,hY⟩:∃ Y,Y=w3.setCell ⟨w.heap.size,2,.none⟩ (.slice a3 n3 c3'):=⟨_,rfl⟩
   have TY:Duo Y w.heap.size (Value.slice (A 0) (N 0) (C 0)) (Value.slice (A 1) (N 1) (C 1)) (Value.slice a3 n3 c3') (Value.slice (A 3) (N 3) (C 3)):=by
    rw [hY]
    exact ⟨heap_setCell_same _ _ 2 _ _ _ T3.1,by rw [Below.heap_setCell _ _ _ _ (by show w.heap.size+1≠w.heap.size;omega)];exact T3.2⟩
   have bY:Below w.heap.size w Y:=by rw [hY];exact bw3.setCell (Nat.le_refl _) _
   have fY:Fl Y (w.heap.size+2) a3 n3 c3' (L 2).tail:=by rw [hY];exact hf3'.set _ (by show w.heap.size<w.heap.size+2;omega) _
   have hfirst:=cell_later bY hfirstw
   rw [←hY]
   clear T3 c0 c1 c2 c3 e0 e1 e2 e3 f0 f1 f2 f3 q0 q1 q2 q3 hY
   obtain ⟨⟨c0,c1,c2,c3⟩,⟨e0,e1,e2,e3⟩,⟨f0,f1,f2,f3⟩,⟨q0,q1,q2,q3⟩⟩:=TY.cells
   have hfz:=cell_later (TK.below (M:=w.heap.size+1) (v0:=Value.slice (A 0) (N 0) (C 0)) (v1:=Value.slice (A 1) (N 1) (C 1)) (v2:=Value.slice a3 n3 c3') (v3:=Value.slice (A 3) (N 3) (C 3)) bY (by omega)) hfirstw
   unfold TK at hfz
   go_region
   all_goals
    go_wp2
    obtain ⟨Z,hZ,z0,z1,z2,z3⟩:=TK.cells (X:=Y) (v0:=Value.slice (A 0) (N 0) (C 0)) (v1:=Value.slice (A 1) (N 1) (C 1)) (v2:=Value.slice a3 n3 c3') (v3:=Value.slice (A 3) (N 3) (C 3)) TY.2
    have bZ:Below w.heap.size w Z.drew:=by rw [hZ];exact (TK.below bY (by omega)).drew
    have fZ:Fl Z.drew (w.heap.size+2) a3 n3 c3' (L 2).tail:=by rw [hZ];exact (TK.fl fY (by omega)).later (Below.refl _ _).drew
    have hZ':=hZ
    unfold TK at hZ'
    rw [←hZ']
    clear hZ' hZ
    refine bodyPost_ret (v:=.tuple #[.agg #[Value.slice (A 0) (N 0) (C 0),Value.slice (A 1) (N 1) (C 1),Value.slice a3 n3 c3',Value.slice (A 3) (N 3) (C 3)],.int .i64 (L 2)[0]]) (by simp [results,Tryz.results68,go_sem,z0,z1,z2,z3]) rfl ⟨upd A 2 a3,upd N 2 n3,upd C 2 c3',by rw [HH.out];rfl,?_,bZ,su fun ad e=>Nat.le_trans (by omega) (fZ.2.2.1 ad e)⟩
    exact hB.upd bZ (fZ.mono (by omega))
  ·have HN1:Hid (dz X (some ⟨b,off+1,.none⟩) m (L 2).tail):=by have:=hNX.out.drop 1 (by omega);rw [List.drop_one] at this;exact this
   go_wp2_with fail
   refine (aau _ m _ (L 2).tail X HN1.out (by omega)).mono ?_
   rintro e w3 ⟨v3,rfl,ho3,hb3⟩
   obtain ⟨a3,n3,c3',rfl,hf3⟩:=ho3.fl
   have hb3':=hb3.mono (Nat.le_of_eq hs0.symm)
   have hf3':=hf3.mono (Nat.le_of_eq hs0.symm)
   have T3:=T0.later hb3' (Nat.le_refl _)
   have bw3:=bw0.trans (hb3'.mono (by omega))
   clear T0 c0 c1 c2 c3 e0 e1 e2 e3 f0 f1 f2 f3 q0 q1 q2 q3 hfirst
   obtain ⟨⟨c0,c1,c2,c3⟩,⟨e0,e1,e2,e3⟩,⟨f0,f1,f2,f3⟩,⟨q0,q1,q2,q3⟩⟩:=T3.cells
   go_wp2
   obtain ⟨Y,hY⟩:∃ Y,Y=w3.setCell ⟨w.heap.size,2,.none⟩ (.slice a3 n3 c3'):=⟨_,rfl⟩
   have TY:Duo Y w.heap.size (Value.slice (A 0) (N 0) (C 0)) (Value.slice (A 1) (N 1) (C 1)) (Value.slice a3 n3 c3') (Value.slice (A 3) (N 3) (C 3)):=by
    rw [hY]
    exact ⟨heap_setCell_same _ _ 2 _ _ _ T3.1,by rw [Below.heap_setCell _ _ _ _ (by show w.heap.size+1≠w.heap.size;omega)];exact T3.2⟩
   have bY:Below w.heap.size w Y:=by rw [hY];exact bw3.setCell (Nat.le_refl _) _
   have fY:Fl Y (w.heap.size+2) a3 n3 c3' (L 2).tail:=by rw [hY];exact hf3'.set _ (by show w.heap.size<w.heap.size+2;omega) _
   have hfirst:=cell_later bY hfirstw
   rw [←hY]
   clear T3 c0 c1 c2 c3 e0 e1 e2 e3 f0 f1 f2 f3 q0 q1 q2 q3 hY
   obtain ⟨⟨c0,c1,c2,c3⟩,⟨e0,e1,e2,e3⟩,⟨f0,f1,f2,f3⟩,⟨q0,q1,q2,q3⟩⟩:=TY.cells
   have hfz:=cell_later (TK.below (M:=w.heap.size+1) (v0:=Value.slice (A 0) (N 0) (C 0)) (v1:=Value.slice (A 1) (N 1) (C 1)) (v2:=Value.slice a3 n3 c3') (v3:=Value.slice (A 3) (N 3) (C 3)) bY (by omega)) hfirstw
   unfold TK at hfz
   go_region
   all_goals
    go_wp2
    obtain ⟨Z,hZ,z0,z1,z2,z3⟩:=TK.cells (X:=Y) (v0:=Value.slice (A 0) (N 0) (C 0)) (v1:=Value.slice (A 1) (N 1) (C 1)) (v2:=Value.slice a3 n3 c3') (v3:=Value.slice (A 3) (N 3) (C 3)) TY.2
    have bZ:Below w.heap.size w Z.drew:=by rw [hZ];exact (TK.below bY (by omega)).drew
    have fZ:Fl Z.drew (w.heap.size+2) a3 n3 c3' (L 2).tail:=by rw [hZ];exact (TK.fl fY (by omega)).later (Below.refl _ _).drew
    have hZ':=hZ
    unfold TK at hZ'
    rw [←hZ']
    clear hZ' hZ
    refine bodyPost_ret (v:=.tuple #[.agg #[Value.slice (A 0) (N 0) (C 0),Value.slice (A 1) (N 1) (C 1),Value.slice a3 n3 c3',Value.slice (A 3) (N 3) (C 3)],.int .i64 (L 2)[0]]) (by simp [results,Tryz.results68,go_sem,z0,z1,z2,z3]) rfl ⟨upd A 2 a3,upd N 2 n3,upd C 2 c3',by rw [HH.out];rfl,?_,bZ,su fun ad e=>Nat.le_trans (by omega) (fZ.2.2.1 ad e)⟩
    exact hB.upd bZ (fZ.mono (by omega))
end Go.Proofs.YtpkhdihoijkamaaGreatDoor
namespace Go.Proofs.YtpkhdihoijkamaaGreatDoor
open Go.ChangeShapes Go.WideShapes Go.ChangeAt Go.RowKit Go.Deep
attribute [local go_sem ↓] Go.wp_at_zero Go.wp_at_succ
theorem take_3 (A:Nat→Option Addr) (N C:Nat→Nat) (L:Nat→List Int) (lo:Nat) (w:World) (hB:j6 w lo A N C L) (hlo:lo≤w.heap.size) (hL:∀ j,j<4→(L j).length≤900) :
 Calls Tryz.prog 68 #[bx A N C,.int .i64 4] w fun e w'=>∃ A' N' C',e=.returned (.tuple #[bx A' N' C',.int .i64 (jf (L 3))])∧j6 w' lo A' N' C' (upd L 3 (L 3).tail)∧Below w.heap.size w w'∧Fresh w.heap.size A N A' N':=by
 have hF:=hB 3 (by decide)
 have hlen:=hL 3 (by decide)
 have hln:=hF.1.1
 have hcap:=hF.2.2.2
 obtain ⟨bw0,hs0⟩:=Duo.below w (.slice (A 0) (N 0) (C 0)) (.slice (A 1) (N 1) (C 1)) (.slice (A 2) (N 2) (C 2)) (.slice (A 3) (N 3) (C 3))
 have T0:=Duo.start w (.slice (A 0) (N 0) (C 0)) (.slice (A 1) (N 1) (C 1)) (.slice (A 2) (N 2) (C 2)) (.slice (A 3) (N 3) (C 3))
 unfold bx
 go_enter Tryz.func68,Tryz.ntmps68
 go_wp2_with fail
 refine (aak 4 _).mono ?_
 rintro e w1 ⟨rfl,rfl⟩
 rw [show ∀ v0 v1 v2 v3,(w.alloc (.cells #[v0,v1,v2,v3] 103)).alloc (.cells #[.slice .none 0 0,.slice .none 0 0,.slice .none 0 0,.slice .none 0 0] 103)=duoW w v0 v1 v2 v3 from fun _ _ _ _=>rfl]
 generalize hX:duoW w (.slice (A 0) (N 0) (C 0)) (.slice (A 1) (N 1) (C 1)) (.slice (A 2) (N 2) (C 2)) (.slice (A 3) (N 3) (C 3))=X at *
 obtain ⟨⟨c0,c1,c2,c3⟩,⟨e0,e1,e2,e3⟩,⟨f0,f1,f2,f3⟩,⟨q0,q1,q2,q3⟩⟩:=T0.cells
 by_cases hn0:N 3=0
 ·have hl0:L 3=[]:=List.eq_nil_of_length_eq_zero (by omega)
  rw [hn0] at c3
  go_wp2
  obtain ⟨Z,hZ,z0,z1,z2,z3⟩:=TK.cells (X:=X) (v0:=Value.slice (A 0) (N 0) (C 0)) (v1:=Value.slice (A 1) (N 1) (C 1)) (v2:=Value.slice (A 2) (N 2) (C 2)) (v3:=Value.slice (A 3) 0 (C 3)) T0.2
  have hZ':=hZ
  unfold TK at hZ'
  rw [←hZ']
  clear hZ'
  have bZ:Below w.heap.size w Z:=by rw [hZ];exact TK.below bw0 (by omega)
  clear hZ
  refine bodyPost_ret (v:=.tuple #[.agg #[Value.slice (A 0) (N 0) (C 0),Value.slice (A 1) (N 1) (C 1),Value.slice (A 2) (N 2) (C 2),Value.slice (A 3) 0 (C 3)],.int .i64 0]) (by simp [results,Tryz.results68,go_sem,z0,z1,z2,z3]) rfl ⟨A,upd N 3 0,C,by rw [hl0];rfl,?_,bZ,by have q:=aap (z:=w.heap.size) (A:=A) (N:=N) (j:=3) rfl hn0;rwa [upd_same A 3] at q⟩
  have hFz:=hF.later bZ
  rw [hn0,hl0] at hFz
  rw [hl0]
  exact upd_same C 3▸upd_same A 3▸hB.upd bZ hFz
 ·obtain ⟨m,hm⟩:∃ m,N 3=m+1:=⟨N 3 - 1,by omega⟩
  obtain ⟨b,off,ha,hc⟩:=(hF.1.later bw0).2.2 hn0
  have hNX:Hid (dz X (some ⟨b,off,.none⟩) (m+1) (L 3)):=by have:=hF.1.later bw0;rw [ha,hm] at this;exact this
  have hfirst:=hc 0 (by omega)
  have hfirstw:w.cell? ⟨b,off,.none⟩=some (.int .i64 (L 3)[0]):=by
   obtain ⟨b',off',e,hcw⟩:=hF.1.2.2 hn0
   rw [ha] at e
   simp only [Option.some.injEq,Addr.mk.injEq,and_true] at e
   obtain ⟨rfl,rfl⟩:=e
   exact hcw 0 (by omega)
  rw [ha,hm] at c3
  clear hc
  have HH:Hid (jf (L 3)=(L 3)[0]):=headL_at _ (by omega)
  by_cases hC1:C 3=1
  ·rw [hC1] at c3
   have HN1:Hid (dz X (some ⟨b,off,.none⟩) m (L 3).tail):=⟨by simp;omega,by omega,fun h=>absurd (by omega) h⟩
   go_wp2_with fail
   refine (aau _ m _ (L 3).tail X HN1.out (by omega)).mono ?_
   rintro e w3 ⟨v3,rfl,ho3,hb3⟩
   obtain ⟨a3,n3,c3',rfl,hf3⟩:=ho3.fl
   have hb3':=hb3.mono (Nat.le_of_eq hs0.symm)
   have hf3':=hf3.mono (Nat.le_of_eq hs0.symm)
   have T3:=T0.later hb3' (Nat.le_refl _)
   have bw3:=bw0.trans (hb3'.mono (by omega))
   clear T0 c0 c1 c2 c3 e0 e1 e2 e3 f0 f1 f2 f3 q0 q1 q2 q3 hfirst
   obtain ⟨⟨c0,c1,c2,c3⟩,⟨e0,e1,e2,e3⟩,⟨f0,f1,f2,f3⟩,⟨q0,q1,q2,q3⟩⟩:=T3.cells
   go_wp2
   obtain ⟨Y,hY⟩:∃ Y,Y=w3.setCell ⟨w.heap.size,3,.none⟩ (.slice a3 n3 c3'):=⟨_,rfl⟩
   have TY:Duo Y w.heap.size (Value.slice (A 0) (N 0) (C 0)) (Value.slice (A 1) (N 1) (C 1)) (Value.slice (A 2) (N 2) (C 2)) (Value.slice a3 n3 c3'):=by
    rw [hY]
    exact ⟨heap_setCell_same _ _ 3 _ _ _ T3.1,by rw [Below.heap_setCell _ _ _ _ (by show w.heap.size+1≠w.heap.size;omega)];exact T3.2⟩
   have bY:Below w.heap.size w Y:=by rw [hY];exact bw3.setCell (Nat.le_refl _) _
   have fY:Fl Y (w.heap.size+2) a3 n3 c3' (L 3).tail:=by rw [hY];exact hf3'.set _ (by show w.heap.size<w.heap.size+2;omega) _
   have hfirst:=cell_later bY hfirstw
   rw [←hY]
   clear T3 c0 c1 c2 c3 e0 e1 e2 e3 f0 f1 f2 f3 q0 q1 q2 q3 hY
   obtain ⟨⟨c0,c1,c2,c3⟩,⟨e0,e1,e2,e3⟩,⟨f0,f1,f2,f3⟩,⟨q0,q1,q2,q3⟩⟩:=TY.cells
   have hfz:=cell_later (TK.below (M:=w.heap.size+1) (v0:=Value.slice (A 0) (N 0) (C 0)) (v1:=Value.slice (A 1) (N 1) (C 1)) (v2:=Value.slice (A 2) (N 2) (C 2)) (v3:=Value.slice a3 n3 c3') bY (by omega)) hfirstw
   unfold TK at hfz
   go_region
   all_goals
    go_wp2
    obtain ⟨Z,hZ,z0,z1,z2,z3⟩:=TK.cells (X:=Y) (v0:=Value.slice (A 0) (N 0) (C 0)) (v1:=Value.slice (A 1) (N 1) (C 1)) (v2:=Value.slice (A 2) (N 2) (C 2)) (v3:=Value.slice a3 n3 c3') TY.2
    have bZ:Below w.heap.size w Z.drew:=by rw [hZ];exact (TK.below bY (by omega)).drew
    have fZ:Fl Z.drew (w.heap.size+2) a3 n3 c3' (L 3).tail:=by rw [hZ];exact (TK.fl fY (by omega)).later (Below.refl _ _).drew
    have hZ':=hZ
    unfold TK at hZ'
    rw [←hZ']
    clear hZ' hZ
    refine bodyPost_ret (v:=.tuple #[.agg #[Value.slice (A 0) (N 0) (C 0),Value.slice (A 1) (N 1) (C 1),Value.slice (A 2) (N 2) (C 2),Value.slice a3 n3 c3'],.int .i64 (L 3)[0]]) (by simp [results,Tryz.results68,go_sem,z0,z1,z2,z3]) rfl ⟨upd A 3 a3,upd N 3 n3,upd C 3 c3',by rw [HH.out];rfl,?_,bZ,su fun ad e=>Nat.le_trans (by omega) (fZ.2.2.1 ad e)⟩
    exact hB.upd bZ (fZ.mono (by omega))
  ·have HN1:Hid (dz X (some ⟨b,off+1,.none⟩) m (L 3).tail):=by have:=hNX.out.drop 1 (by omega);rw [List.drop_one] at this;exact this
   go_wp2_with fail
   refine (aau _ m _ (L 3).tail X HN1.out (by omega)).mono ?_
   rintro e w3 ⟨v3,rfl,ho3,hb3⟩
   obtain ⟨a3,n3,c3',rfl,hf3⟩:=ho3.fl
   have hb3':=hb3.mono (Nat.le_of_eq hs0.symm)
   have hf3':=hf3.mono (Nat.le_of_eq hs0.symm)
   have T3:=T0.later hb3' (Nat.le_refl _)
   have bw3:=bw0.trans (hb3'.mono (by omega))
   clear T0 c0 c1 c2 c3 e0 e1 e2 e3 f0 f1 f2 f3 q0 q1 q2 q3 hfirst
   obtain ⟨⟨c0,c1,c2,c3⟩,⟨e0,e1,e2,e3⟩,⟨f0,f1,f2,f3⟩,⟨q0,q1,q2,q3⟩⟩:=T3.cells
   go_wp2
   obtain ⟨Y,hY⟩:∃ Y,Y=w3.setCell ⟨w.heap.size,3,.none⟩ (.slice a3 n3 c3'):=⟨_,rfl⟩
   have TY:Duo Y w.heap.size (Value.slice (A 0) (N 0) (C 0)) (Value.slice (A 1) (N 1) (C 1)) (Value.slice (A 2) (N 2) (C 2)) (Value.slice a3 n3 c3'):=by
    rw [hY]
    exact ⟨heap_setCell_same _ _ 3 _ _ _ T3.1,by rw [Below.heap_setCell _ _ _ _ (by show w.heap.size+1≠w.heap.size;omega)];exact T3.2⟩
   have bY:Below w.heap.size w Y:=by rw [hY];exact bw3.setCell (Nat.le_refl _) _
   have fY:Fl Y (w.heap.size+2) a3 n3 c3' (L 3).tail:=by rw [hY];exact hf3'.set _ (by show w.heap.size<w.heap.size+2;omega) _
   have hfirst:=cell_later bY hfirstw
   rw [←hY]
   clear T3 c0 c1 c2 c3 e0 e1 e2 e3 f0 f1 f2 f3 q0 q1 q2 q3 hY
   obtain ⟨⟨c0,c1,c2,c3⟩,⟨e0,e1,e2,e3⟩,⟨f0,f1,f2,f3⟩,⟨q0,q1,q2,q3⟩⟩:=TY.cells
   have hfz:=cell_later (TK.below (M:=w.heap.size+1) (v0:=Value.slice (A 0) (N 0) (C 0)) (v1:=Value.slice (A 1) (N 1) (C 1)) (v2:=Value.slice (A 2) (N 2) (C 2)) (v3:=Value.slice a3 n3 c3') bY (by omega)) hfirstw
   unfold TK at hfz
   go_region
   all_goals
    go_wp2
    obtain ⟨Z,hZ,z0,z1,z2,z3⟩:=TK.cells (X:=Y) (v0:=Value.slice (A 0) (N 0) (C 0)) (v1:=Value.slice (A 1) (N 1) (C 1)) (v2:=Value.slice (A 2) (N 2) (C 2)) (v3:=Value.slice a3 n3 c3') TY.2
    have bZ:Below w.heap.size w Z.drew:=by rw [hZ];exact (TK.below bY (by omega)).drew
    have fZ:Fl Z.drew (w.heap.size+2) a3 n3 c3' (L 3).tail:=by rw [hZ];exact (TK.fl fY (by omega)).later (Below.refl _ _).drew
    have hZ':=hZ
    unfold TK at hZ'
    rw [←hZ']
    clear hZ' hZ
    refine bodyPost_ret (v:=.tuple #[.agg #[Value.slice (A 0) (N 0) (C 0),Value.slice (A 1) (N 1) (C 1),Value.slice (A 2) (N 2) (C 2),Value.slice a3 n3 c3'],.int .i64 (L 3)[0]]) (by simp [results,Tryz.results68,go_sem,z0,z1,z2,z3]) rfl ⟨upd A 3 a3,upd N 3 n3,upd C 3 c3',by rw [HH.out];rfl,?_,bZ,su fun ad e=>Nat.le_trans (by omega) (fZ.2.2.1 ad e)⟩
    exact hB.upd bZ (fZ.mono (by omega))
end Go.Proofs.YtpkhdihoijkamaaGreatDoor
namespace Go.Proofs.YtpkhdihoijkamaaGreatDoor
open Go.ChangeShapes Go.WideShapes Go.ChangeAt Go.RowKit Go.Deep
theorem take_fresh (A:Nat→Option Addr) (N C:Nat→Nat) (L:Nat→List Int) (j:Nat) (who:Int) (lo:Nat) (w:World) (hj:j<4) (hw:who=(j:Int)+1) (hB:j6 w lo A N C L) (hlo:lo≤w.heap.size) (hL:∀ j,j<4→(L j).length≤900) :
 Calls Tryz.prog 68 #[bx A N C,.int .i64 who] w fun e w'=>∃ A' N' C',e=.returned (.tuple #[bx A' N' C',.int .i64 (jf (L j))])∧j6 w' lo A' N' C' (upd L j (L j).tail)∧Below w.heap.size w w'∧Fresh w.heap.size A N A' N':=by
 subst hw
 rcases (by omega:j=0∨j=1∨j=2∨j=3) with rfl|rfl|rfl|rfl
 ·exact take_0 A N C L lo w hB hlo hL
 ·exact take_1 A N C L lo w hB hlo hL
 ·exact take_2 A N C L lo w hB hlo hL
 ·exact take_3 A N C L lo w hB hlo hL
end Go.Proofs.YtpkhdihoijkamaaGreatDoor
