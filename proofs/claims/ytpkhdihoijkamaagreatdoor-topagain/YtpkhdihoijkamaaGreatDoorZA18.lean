/- Several texts of this seat in one: UTgt, UStore, Delete, DelWalk, Insert, InsMid. No statement of the seat is proved here. -/
import Derived.Test.YtpkhdihoijkamaaGreatDoorZA14
import Derived.Test.YtpkhdihoijkamaaGreatDoorZA15
import Derived.Test.YtpkhdihoijkamaaGreatDoorZA16
import Derived.Test.YtpkhdihoijkamaaGreatDoorZA17
import Derived.Test.YtpkhdihoijkamaaGreatDoorZA09
import Derived.Maps.OwnSet
import Derived.Lib.Overlaps
import Derived.Lib.AppendZerosOnto
import Derived.Deep.RegionLaw
import Derived.Laws.CopyRow
set_option maxHeartbeats 4000000
set_option maxRecDepth 100000
namespace Go.Proofs.YtpkhdihoijkamaaGreatDoor.U
open Go.ChangeShapes Go.WideShapes Go.ChangeAt Go.RowKit Go.Deep Go.Maps Go.MapKept
open Go.Proofs.YtpkhdihoijkamaaGreatDoor.D
structure ed where
 dst:Int
 k:Nat
 c:G.Cel
 tag:Int
def ed.vs (m:ed):List Value:=G.msgV m.dst m.k m.c m.tag
def gu (l:List ed):List Value:=l.flatMap ed.vs
structure TP where
 k:Nat
 b:Nat
 a:Option Addr
 c:Nat
 P:DP
 A:Nat→Option Addr
 N:Nat→Nat
 C:Nat→Nat
 fv:Value
 dv:Value
 m:Nat
 col:Nat→Nat
structure TM where
 e:Int
 s:KS
 D:DM
 rs:List G.Rep
 up:List Bool
 L:Nat→List Int
 fly:List ed
 W:DataW Unit
 dn:List Bool
 nm:Int
def bxV (A:Nat→Option Addr) (N C:Nat→Nat):List Value:=[.slice (A 0) (N 0) (C 0),.slice (A 1) (N 1) (C 1),.slice (A 2) (N 2) (C 2),.slice (A 3) (N 3) (C 3)]
def TP.tv (p:TP) (M:TM):List Value:=tgV p.k (G.grV M.rs M.up) (bxV p.A p.N p.C) p.fv (.map (some p.m)) p.dv M.nm
def TP.F (p:TP):Nat→Prop:=fun q=>p.col q≠0
def qo (w:World) (m:Nat) (W:DataW Unit):Prop:=w.ownsMap Tryz.prog 3 (plainElem Tryz.prog 113) m (Maps.size W) W
structure aa (w0 w:World) (t:Nat) (M:TM) (p:TP):Prop where
 hd:At w t (p.tv M) 107
 ok:G.GOK M.rs M.up
 kk:KK w p.k p.b 10 M.e M.s p.a p.c M.D p.P
 fl:ek 116 6 w p.fv M.fly.length (gu M.fly)
 dl:ek 4 1 w p.dv M.dn.length (M.dn.map Value.bool)
 mp:qo w p.m M.W
 bx:j6 w 0 p.A p.N p.C M.L
 cK:∀ q,KF p.P p.b p.k p.a M.s q→p.col q=1
 cT:p.col t=2
 cF:∀ q,ObX p.fv q→p.col q=3
 cD:∀ q,ObX p.dv q→p.col q=4
 cM:p.col p.m=5
 cB:∀ j,j<4→∀ ad,p.A j=some ad→p.N j≠0→p.col ad.block=6
 cN:∀ q,p.col q≠0→w0.heap.size≤q∧q<w.heap.size
 bw:Below w0.heap.size w0 w
theorem aa.len {w0 w:World} {t:Nat} {M:TM} {p:TP} (h:aa w0 w t M p):xn (G.grV M.rs M.up) (bxV p.A p.N p.C):=⟨h.ok.vlen,rfl⟩
theorem fl_moved {F F':Nat→Prop} {w w':World} {lo:Nat} {a:Option Addr} {n c:Nat} {l:List Int} (h:Fl w lo a n c l) (hm:ae F F' w w') (hf:∀ ad,a=some ad→n≠0→¬F ad.block):Fl w' lo a n c l:=by
 refine ⟨⟨h.1.1,h.1.2.1,fun h0=>?_⟩,h.2⟩
 obtain ⟨b,off,ha,hc⟩:=h.1.2.2 h0
 exact ⟨b,off,ha,fun i hi=>hm.cell (hc i hi) (show ¬F b from hf _ ha h0)⟩
theorem abx {F F':Nat→Prop} {w w':World} {lo:Nat} {A:Nat→Option Addr} {N C:Nat→Nat} {L:Nat→List Int} (h:j6 w lo A N C L) (hm:ae F F' w w') (hf:∀ j,j<4→∀ ad,A j=some ad→N j≠0→¬F ad.block):j6 w' lo A N C L :=
 fun j hj=>fl_moved (h j hj) hm (hf j hj)
theorem fl_lt {w:World} {lo:Nat} {a:Option Addr} {n c:Nat} {l:List Int} (h:Fl w lo a n c l) (h0:n≠0):∀ ad,a=some ad→ad.block<w.heap.size:=by
 rintro ad rfl
 obtain ⟨b,off,ha,hc⟩:=h.1.2.2 h0
 simp only [Option.some.injEq] at ha
 subst ha
 have hl:=h.1.1
 have:=hc 0 (by omega)
 exact cell_lt this
theorem map_exact {w:World} {m n:Nat} {W:DataW Unit} (h:w.ownsMap Tryz.prog 3 (plainElem Tryz.prog 113) m n W):qo w m W:=by
 obtain ⟨es,clock,hb,F,hs,rfl⟩:=h
 exact ⟨es,clock,hb,F,by rw [Maps.size_eq,length_sorted,List.length_map];simp,rfl⟩
theorem abl {F F':Nat→Prop} {w w':World} {m:Nat} {W:DataW Unit} (h:qo w m W) (hm:ae F F' w w') (hf:¬F m):qo w' m W:=by
 have hl:=h.lt
 obtain ⟨es,clock,hb,F,hs,hD⟩:=h
 exact ⟨es,clock,(hm.block m hl hf).trans hb,F,hs,hD⟩
theorem map_later {w w':World} {m:Nat} {W:DataW Unit} (h:qo w m W) (hb:Below w.heap.size w w'):qo w' m W:=abl h (ae.of (F:=fun _=>False) hb (Nat.le_refl _)) (fun f=>f)
theorem grown_moved {w w':World} {m:Nat} (h:w.grownBy w' (some m)):ae (Is m) (Is m) w w' :=
 ⟨h.os,h.tape,h.output,h.size,fun k hk hn=>h.block k hk (fun e=>hn (Option.some.inj e)),fun _ h=>.inl h⟩
theorem turned_moved {w w':World} {m:Nat} (h:w.mapTurned w' m):ae (Is m) (Is m) w w':=grown_moved h.grown
theorem x9:Keyed Tryz.prog 3:=int_keyed Tryz.underlying3
theorem clear_map {w:World} {m:Nat} {W:DataW Unit} (h:qo w m W) (ty:TypeId):∃ w',(Builtin.clear_ #[104] ty #[.map (some m)]).run Tryz.prog w=.ok (.tuple #[]) w'∧qo w' m (.map [])∧ae (Is m) (Is m) w w':=by
 obtain ⟨es,clock,hb,F,hs,hD⟩:=h
 refine ⟨ChangeMaps.setBlock w m (.map #[] clock),?_,⟨#[],clock,ChangeMaps.heap_setBlock_same hb _,⟨by simp,stamped_empty clock,by simp⟩,Nat.zero_le _,rfl⟩,⟨rfl,rfl,rfl,by simp [ChangeMaps.setBlock],fun k _ hk=>ChangeMaps.heap_setBlock_other hb _ (fun e=>hk (by rw [e];rfl)),fun _ h=>.inl h⟩⟩
 simp [Builtin.clear_,run_underlying Tryz.underlying104,MapKept.run_getObj_map hb,MapKept.run_setObj_map _ hb,Result.andThen,ChangeMaps.setBlock]
theorem aa.later {w0 w w':World} {t:Nat} {M:TM} {p:TP} (h:aa w0 w t M p) (hb:Below w.heap.size w w'):aa w0 w' t M p :=
 ⟨h.hd.later hb h.hd.lt,h.ok,h.kk.later hb,h.fl.later hb (Nat.le_refl _),h.dl.later hb (Nat.le_refl _),map_later h.mp hb,h.bx.later hb,h.cK,h.cT,h.cF,h.cD,h.cM,h.cB,fun q hq=>⟨(h.cN q hq).1,Nat.lt_of_lt_of_le (h.cN q hq).2 hb.size⟩,h.bw.trans (hb.mono h.bw.size)⟩
theorem aa.beside {F F':Nat→Prop} {w0 w w':World} {t:Nat} {M:TM} {p:TP} (h:aa w0 w t M p) (hm:ae F F' w w') (hf:∀ q,F q→¬p.F q) (h0:∀ q,F q→w0.heap.size≤q):aa w0 w' t M p:=by
 have hn:∀ q c,p.col q=c→c≠0→¬F q:=fun q c e hc f=>hf q f (by unfold TP.F;omega)
 exact ⟨hm.at h.hd (hn _ _ h.cT (by decide)),h.ok,h.kk.moved hm (fun q f e=>hn _ _ (h.cK q e) (by decide) f),h.fl.moved hm (fun q e=>hn _ _ (h.cF q e) (by decide)),h.dl.moved hm (fun q e=>hn _ _ (h.cD q e) (by decide)),
  abl h.mp hm (hn _ _ h.cM (by decide)),abx h.bx hm (fun j hj ad e hN=>hn _ _ (h.cB j hj ad e hN) (by decide)),h.cK,h.cT,h.cF,h.cD,h.cM,h.cB,fun q hq=>⟨(h.cN q hq).1,Nat.lt_of_lt_of_le (h.cN q hq).2 hm.size⟩,hm.below h.bw h0 h.bw.size⟩
theorem aa.above {w0 w:World} {t:Nat} {M:TM} {p:TP} (h:aa w0 w t M p):∀ q,p.F q→w0.heap.size≤q:=fun q hq=>(h.cN q hq).1
theorem aa.foot {w0 w:World} {t:Nat} {M:TM} {p:TP} (h:aa w0 w t M p):∀ q,p.F q→q<w.heap.size:=fun q hq=>(h.cN q hq).2
open Classical in
noncomputable def reC (z:Nat) (col:Nat→Nat) (X:Nat→Prop) (c:Nat):Nat→Nat:=fun q=>if q<z then col q else if X q then c else 0
theorem qh {z:Nat} {col:Nat→Nat} {X:Nat→Prop} {c q:Nat} (h:q<z):reC z col X c q=col q:=if_pos h
theorem reC_hi {z:Nat} {col:Nat→Nat} {X:Nat→Prop} {c q:Nat} (h:z≤q) (hX:X q):reC z col X c q=c:=by
 unfold reC;rw [if_neg (by omega),if_pos hX]
theorem reC_nz {z:Nat} {col:Nat→Nat} {X:Nat→Prop} {c q:Nat} (hq:z≤q) (h:reC z col X c q≠0):X q:=by
 unfold reC at h
 rw [if_neg (by omega)] at h
 by_cases hX:X q
 ·exact hX
 ·rw [if_neg hX] at h;exact absurd rfl h
def boxX (A:Nat→Option Addr) (N:Nat→Nat):Nat→Prop:=fun q=>∃ j,j<4∧∃ ad,A j=some ad∧N j≠0∧ad.block=q
section
variable {w0 w w' w1:World} {t:Nat} {M M':TM} {p p':TP} {F F':Nat→Prop}
theorem aa.re (h:aa w0 w t M p) (hm:ae F F' w w') (hF:∀ q,F q→p.col q≠0) (hlo:∀ q,q<w.heap.size→p'.col q=p.col q) (hhi:∀ q,w.heap.size≤q→p'.col q≠0→q<w'.heap.size)
 (hd:At w' t (p'.tv M') 107) (ok:G.GOK M'.rs M'.up) (kk:KK w' p'.k p'.b 10 M'.e M'.s p'.a p'.c M'.D p'.P) (fl:ek 116 6 w' p'.fv M'.fly.length (gu M'.fly)) (dl:ek 4 1 w' p'.dv M'.dn.length (M'.dn.map Value.bool))
 (mp:qo w' p'.m M'.W) (bx:j6 w' 0 p'.A p'.N p'.C M'.L) (cK:∀ q,KF p'.P p'.b p'.k p'.a M'.s q→p'.col q=1) (cF:∀ q,ObX p'.fv q→p'.col q=3) (cD:∀ q,ObX p'.dv q→p'.col q=4) (cM:p'.col p'.m=5)
 (cB:∀ j,j<4→∀ ad,p'.A j=some ad→p'.N j≠0→p'.col ad.block=6):aa w0 w' t M' p'∧ae p.F p'.F w w':=by
 have h0:=h.bw.size
 refine ⟨⟨hd,ok,kk,fl,dl,mp,bx,cK,(hlo t h.hd.lt).trans h.cT,cF,cD,cM,cB,fun q hq=>?_,hm.below h.bw (fun q f=>h.above q (hF q f)) h.bw.size⟩,hm.mono hF (fun q e=>?_)⟩
 ·by_cases hl:q<w.heap.size
  ·rw [hlo q hl] at hq
   exact ⟨(h.cN q hq).1,Nat.lt_of_lt_of_le hl hm.size⟩
  ·exact ⟨by omega,hhi q (by omega) hq⟩
 ·by_cases hl:q<w.heap.size
  ·exact .inl (by show p.col q≠0;rw [←hlo q hl];exact e)
  ·exact .inr (.inr (by omega))
theorem aa.nc (_:aa w0 w t M p) {c:Nat} (hF:∀ q,F q→p.col q=c) {q d:Nat} (hq:p.col q=d) (hd:d≠c):¬F q:=fun f=>hd (by rw [←hq,hF q f])
theorem aa.kkM (h:aa w0 w t M p) (hm:ae F F' w w') {c:Nat} (hF:∀ q,F q→p.col q=c) (hc:c≠1):KK w' p.k p.b 10 M.e M.s p.a p.c M.D p.P:=h.kk.moved hm (fun q f e=>h.nc hF (h.cK q e) (Ne.symm hc) f)
theorem aa.flM (h:aa w0 w t M p) (hm:ae F F' w w') {c:Nat} (hF:∀ q,F q→p.col q=c) (hc:c≠3):ek 116 6 w' p.fv M.fly.length (gu M.fly):=h.fl.moved hm (fun q e=>h.nc hF (h.cF q e) (Ne.symm hc))
theorem aa.dlM (h:aa w0 w t M p) (hm:ae F F' w w') {c:Nat} (hF:∀ q,F q→p.col q=c) (hc:c≠4):ek 4 1 w' p.dv M.dn.length (M.dn.map Value.bool):=h.dl.moved hm (fun q e=>h.nc hF (h.cD q e) (Ne.symm hc))
theorem aa.mpM (h:aa w0 w t M p) (hm:ae F F' w w') {c:Nat} (hF:∀ q,F q→p.col q=c) (hc:c≠5):qo w' p.m M.W:=abl h.mp hm (h.nc hF h.cM (Ne.symm hc))
theorem aa.bxM (h:aa w0 w t M p) (hm:ae F F' w w') {c:Nat} (hF:∀ q,F q→p.col q=c) (hc:c≠6):j6 w' 0 p.A p.N p.C M.L:=abx h.bx hm (fun j hj ad e hN=>h.nc hF (h.cB j hj ad e hN) (Ne.symm hc))
theorem aa.hdM (h:aa w0 w t M p) (hm:ae F F' w w') {c:Nat} (hF:∀ q,F q→p.col q=c) (hc:c≠2):At w' t (p.tv M) 107:=hm.at h.hd (h.nc hF h.cT (Ne.symm hc))
theorem aa.isT (h:aa w0 w t M p):∀ q,Is t q→p.col q=2:=fun q f=>by have:q=t:=f;subst this;exact h.cT
theorem aa.isM (h:aa w0 w t M p):∀ q,Is p.m q→p.col q=5:=fun q f=>by have:q=p.m:=f;subst this;exact h.cM
theorem aa.head (h:aa w0 w t M p) (hm:ae (Is t) (Is t) w w') {rs:List G.Rep} {up:List Bool} {nm:Int} (ok:G.GOK rs up) (hd:At w' t (p.tv { M with rs:=rs,up:=up,nm:=nm }) 107) :
 aa w0 w' t { M with rs:=rs,up:=up,nm:=nm } p∧ae p.F p.F w w' :=
 h.re hm (fun q f=>by rw [h.isT q f];decide) (fun _ _=>rfl) (fun q hq hc=>absurd (h.cN q hc).2 (by omega)) hd ok (h.kkM hm h.isT (by decide)) (h.flM hm h.isT (by decide)) (h.dlM hm h.isT (by decide)) (h.mpM hm h.isT (by decide)) (h.bxM hm h.isT (by decide)) h.cK h.cF h.cD h.cM h.cB
theorem aa.map (h:aa w0 w t M p) (hm:ae (Is p.m) (Is p.m) w w') {W:DataW Unit} (hW:qo w' p.m W):aa w0 w' t { M with W:=W } p∧ae p.F p.F w w' :=
 h.re hm (fun q f=>by rw [h.isM q f];decide) (fun _ _=>rfl) (fun q hq hc=>absurd (h.cN q hc).2 (by omega)) (h.hdM hm h.isM (by decide)) h.ok (h.kkM hm h.isM (by decide)) (h.flM hm h.isM (by decide)) (h.dlM hm h.isM (by decide)) hW (h.bxM hm h.isM (by decide)) h.cK h.cF h.cD h.cM h.cB
theorem aa.dset (h:aa w0 w t M p) (hm:ae (ObX p.dv) (ObX p.dv) w w') {dn:List Bool} (hW:ek 4 1 w' p.dv dn.length (dn.map Value.bool)):aa w0 w' t { M with dn:=dn } p∧ae p.F p.F w w' :=
 h.re hm (fun q f=>by rw [h.cD q f];decide) (fun _ _=>rfl) (fun q hq hc=>absurd (h.cN q hc).2 (by omega)) (h.hdM hm h.cD (by decide)) h.ok (h.kkM hm h.cD (by decide)) (h.flM hm h.cD (by decide)) hW (h.mpM hm h.cD (by decide)) (h.bxM hm h.cD (by decide)) h.cK h.cF h.cD h.cM h.cB
theorem aa.box (h:aa w0 w t M p) (hb:Below w.heap.size w w1) (hm1:ae (Is t) (Is t) w1 w') {A:Nat→Option Addr} {N C:Nat→Nat} {L:Nat→List Int} (hB:j6 w1 0 A N C L) (hFr:∀ j,j<4→(A j=p.A j∧N j=p.N j)∨∀ ad,A j=some ad→w.heap.size≤ad.block)
 (hd:At w' t (TP.tv { p with A:=A,N:=N,C:=C } { M with L:=L }) 107) :
 aa w0 w' t { M with L:=L } { p with A:=A,N:=N,C:=C,col:=reC w.heap.size p.col (boxX A N) 6 } ∧
  ae p.F (TP.F { p with A:=A,N:=N,C:=C,col:=reC w.heap.size p.col (boxX A N) 6 }) w w':=by
 have hm:ae (Is t) (Is t) w w':=(ae.of hb (Nat.le_refl _)).trans hm1
 have ht:=h.hd.lt
 refine h.re hm (fun q f=>by rw [h.isT q f];decide) (fun q hq=>qh hq) (fun q hq hc=>?_) hd h.ok (h.kkM hm h.isT (by decide)) (h.flM hm h.isT (by decide)) (h.dlM hm h.isT (by decide)) (h.mpM hm h.isT (by decide))
  (abx hB hm1 (fun j hj ad e hN f=>?_)) (fun q e=>by exact (qh (h.kk.foot q e)).trans (h.cK q e)) (fun q e=>by exact (qh (h.fl.lt e)).trans (h.cF q e)) (fun q e=>by exact (qh (h.dl.lt e)).trans (h.cD q e)) (by exact (qh h.mp.lt).trans h.cM) (fun j hj ad e hN=>?_)
 ·obtain ⟨j,hj,ad,e,hN,rfl⟩:=reC_nz hq hc
  exact Nat.lt_of_lt_of_le (fl_lt (hB j hj) hN ad e) hm1.size
 ·have hf:ad.block=t:=f
  rcases hFr j hj with ⟨e1,e2⟩|e1
  ·have:=h.cB j hj ad (by rw [←e1];exact e) (by rw [←e2];exact hN)
   rw [hf,h.cT] at this
   exact absurd this (by decide)
  ·have:=e1 ad e;omega
 ·rcases hFr j hj with ⟨e1,e2⟩|e1
  ·have hc:=h.cB j hj ad (by rw [←e1];exact e) (by rw [←e2];exact hN)
   exact (qh (h.cN _ (by omega)).2).trans hc
  ·exact reC_hi (e1 ad e) ⟨j,hj,ad,e,hN,rfl⟩
theorem aa.keep (h:aa w0 w t M p) {e:Int} {s:KS} {D:DM} {a:Option Addr} {c:Nat} {P:DP} (hk:KK w' p.k p.b 10 e s a c D P) (hm:ae (KF p.P p.b p.k p.a M.s) (KF P p.b p.k a s) w w') :
 aa w0 w' t { M with e:=e,s:=s,D:=D } { p with a:=a,c:=c,P:=P,col:=reC w.heap.size p.col (KF P p.b p.k a s) 1 }∧ae p.F (TP.F { p with a:=a,c:=c,P:=P,col:=reC w.heap.size p.col (KF P p.b p.k a s) 1 }) w w' :=
 h.re hm (fun q f=>by rw [h.cK q f];decide) (fun q hq=>qh hq) (fun q hq hc=>hk.foot q (reC_nz hq hc)) (h.hdM hm h.cK (by decide)) h.ok hk (h.flM hm h.cK (by decide)) (h.dlM hm h.cK (by decide)) (h.mpM hm h.cK (by decide)) (h.bxM hm h.cK (by decide))
  (fun q f=>by
   rcases hm.grown q f with e|e
   ·exact (qh (h.kk.foot q e)).trans (h.cK q e)
   ·exact reC_hi e f) (fun q e=>by exact (qh (h.fl.lt e)).trans (h.cF q e)) (fun q e=>by exact (qh (h.dl.lt e)).trans (h.cD q e)) (by exact (qh h.mp.lt).trans h.cM) (fun j hj ad e hN=>(qh (h.cN _ (by rw [h.cB j hj ad e hN];decide)).2).trans (h.cB j hj ad e hN))
theorem aa.flew (h:aa w0 w t M p) {fv:Value} {fly:List ed} (hm1:ae (ObX p.fv) (ObX fv) w w1) (hf:ek 116 6 w1 fv fly.length (gu fly)) (hm2:ae (Is t) (Is t) w1 w') (hd:At w' t (TP.tv { p with fv:=fv } { M with fly:=fly }) 107) :
 aa w0 w' t { M with fly:=fly } { p with fv:=fv,col:=reC w.heap.size p.col (ObX fv) 3 }∧ae p.F (TP.F { p with fv:=fv,col:=reC w.heap.size p.col (ObX fv) 3 }) w w':=by
 have hf':∀ q,ObX fv q→¬Is t q:=fun q f e=>by
  have e':q=t:=e
  subst e'
  rcases hm1.grown q f with e1|e1
  ·have:=h.cF q e1;rw [h.cT] at this;exact absurd this (by decide)
  ·have:=h.hd.lt;omega
 have hm:ae (fun q=>ObX p.fv q∨q=t) (fun q=>ObX p.fv q∨q=t) w w' :=
  ((hm1.mono (fun q e=>.inl e) (fun q e=>.inl e)):ae (fun q=>ObX p.fv q∨q=t) (fun q=>ObX p.fv q∨q=t) w w1).trans (hm2.mono (fun q e=>.inr e) (fun q e=>.inl e))
 have hc:∀ q,(ObX p.fv q∨q=t)→p.col q=3∨p.col q=2:=fun q e=>e.elim (fun e=>.inl (h.cF q e)) (fun e=>.inr (by rw [e];exact h.cT))
 have hn:∀ {q d:Nat},p.col q=d→d≠3→d≠2→¬(ObX p.fv q∨q=t):=fun e h3 h2 f=>(hc _ f).elim (fun x=>h3 (by rw [←e,x])) (fun x=>h2 (by rw [←e,x]))
 refine h.re hm (fun q f=>by rcases hc q f with e|e <;> rw [e] <;> decide) (fun q hq=>qh hq) (fun q hq hc=>Nat.lt_of_lt_of_le (hf.lt (reC_nz hq hc)) hm2.size) hd h.ok (h.kk.moved hm (fun q f e=>hn (h.cK q e) (by decide) (by decide) f)) (hf.moved hm2 hf')
  (h.dl.moved hm (fun q e=>hn (h.cD q e) (by decide) (by decide))) (abl h.mp hm (hn h.cM (by decide) (by decide))) (abx h.bx hm (fun j hj ad e hN=>hn (h.cB j hj ad e hN) (by decide) (by decide))) (fun q e=>by exact (qh (h.kk.foot q e)).trans (h.cK q e))
  (fun q f=>?_) (fun q e=>by exact (qh (h.dl.lt e)).trans (h.cD q e)) (by exact (qh h.mp.lt).trans h.cM) (fun j hj ad e hN=>(qh (h.cN _ (by rw [h.cB j hj ad e hN];decide)).2).trans (h.cB j hj ad e hN))
 rcases hm1.grown q f with e|e
 ·exact (qh (h.fl.lt e)).trans (h.cF q e)
 ·exact reC_hi e f
theorem aa.gave (h:aa w0 w t M p) {dv:Value} {dn:List Bool} (hm1:ae (ObX p.dv) (ObX dv) w w1) (hf:ek 4 1 w1 dv dn.length (dn.map Value.bool)) (hm2:ae (Is t) (Is t) w1 w') (hd:At w' t (TP.tv { p with dv:=dv } { M with dn:=dn }) 107) :
 aa w0 w' t { M with dn:=dn } { p with dv:=dv,col:=reC w.heap.size p.col (ObX dv) 4 }∧ae p.F (TP.F { p with dv:=dv,col:=reC w.heap.size p.col (ObX dv) 4 }) w w':=by
 have hf':∀ q,ObX dv q→¬Is t q:=fun q f e=>by
  have e':q=t:=e
  subst e'
  rcases hm1.grown q f with e1|e1
  ·have:=h.cD q e1;rw [h.cT] at this;exact absurd this (by decide)
  ·have:=h.hd.lt;omega
 have hm:ae (fun q=>ObX p.dv q∨q=t) (fun q=>ObX p.dv q∨q=t) w w' :=
  ((hm1.mono (fun q e=>.inl e) (fun q e=>.inl e)):ae (fun q=>ObX p.dv q∨q=t) (fun q=>ObX p.dv q∨q=t) w w1).trans (hm2.mono (fun q e=>.inr e) (fun q e=>.inl e))
 have hc:∀ q,(ObX p.dv q∨q=t)→p.col q=4∨p.col q=2:=fun q e=>e.elim (fun e=>.inl (h.cD q e)) (fun e=>.inr (by rw [e];exact h.cT))
 have hn:∀ {q d:Nat},p.col q=d→d≠4→d≠2→¬(ObX p.dv q∨q=t):=fun e h3 h2 f=>(hc _ f).elim (fun x=>h3 (by rw [←e,x])) (fun x=>h2 (by rw [←e,x]))
 refine h.re hm (fun q f=>by rcases hc q f with e|e <;> rw [e] <;> decide) (fun q hq=>qh hq) (fun q hq hc=>Nat.lt_of_lt_of_le (hf.lt (reC_nz hq hc)) hm2.size) hd h.ok (h.kk.moved hm (fun q f e=>hn (h.cK q e) (by decide) (by decide) f))
  (h.fl.moved hm (fun q e=>hn (h.cF q e) (by decide) (by decide))) (hf.moved hm2 hf') (abl h.mp hm (hn h.cM (by decide) (by decide))) (abx h.bx hm (fun j hj ad e hN=>hn (h.cB j hj ad e hN) (by decide) (by decide))) (fun q e=>by exact (qh (h.kk.foot q e)).trans (h.cK q e))
  (fun q e=>by exact (qh (h.fl.lt e)).trans (h.cF q e)) (fun q f=>?_) (by exact (qh h.mp.lt).trans h.cM) (fun j hj ad e hN=>(qh (h.cN _ (by rw [h.cB j hj ad e hN];decide)).2).trans (h.cB j hj ad e hN))
 rcases hm1.grown q f with e|e
 ·exact (qh (h.dl.lt e)).trans (h.cD q e)
 ·exact reC_hi e f
end
theorem acz:∀ (vs pre old post:List Value),old.length=vs.length→il (pre ++ (old ++ post)) pre.length vs=pre ++ (vs ++ post)
 | [],pre,old,post,h=>by have:old=[]:=List.eq_nil_of_length_eq_zero (by simpa using h);subst this;rfl
 | v :: r,pre,[],post,h=>by simp at h
 | v :: r,pre,x :: old,post,h=>by
   have ih:=acz r (pre ++ [v]) old post (by simpa using h)
   simp only [il]
   rw [show (pre ++ (x :: old ++ post)).set pre.length v=(pre ++ [v]) ++ (old ++ post) by simp]
   rw [show pre.length+1=(pre ++ [v]).length by simp,ih];simp
section
variable {k:Nat} {gs bs:List Value} {fly wts dn:Value} {nm:Int}
theorem tgV_len (h:xn gs bs):(tgV k gs bs fly wts dn nm).length=87:=by have:=h.g;have:=h.b;simp [tgV];omega
theorem tgV_grp (h:xn gs bs) (gs':List Value) (hg:gs'.length=78):il (tgV k gs bs fly wts dn nm) 1 gs'=tgV k gs' bs fly wts dn nm :=
 acz gs' [.pointer (some ⟨k,0,.none⟩)] gs (bs ++ [fly,wts,dn,.int .i64 nm]) (by rw [h.g,hg])
theorem tgV_box (h:xn gs bs) (bs':List Value) (hb:bs'.length=4):il (tgV k gs bs fly wts dn nm) 79 bs'=tgV k gs bs' fly wts dn nm:=by
 have:=acz bs' (.pointer (some ⟨k,0,.none⟩) :: gs) bs [fly,wts,dn,.int .i64 nm] (by rw [h.b,hb])
 rw [show (Value.pointer (some ⟨k,0,.none⟩) :: gs).length=79 by simp [h.g]] at this
 exact this
theorem tgV_tail (h:xn gs bs) (j:Nat) (v:Value):(tgV k gs bs fly wts dn nm).set (83+j) v=.pointer (some ⟨k,0,.none⟩) :: (gs ++ (bs ++ ([fly,wts,dn,.int .i64 nm].set j v))):=by
 have hg:=h.g
 have hb:=h.b
 unfold tgV
 rw [show 83+j=(82+j)+1 by omega,List.set_cons_succ,List.set_append_right _ _ (by omega),List.set_append_right _ _ (by omega),hg,hb,show 82+j - 78 - 4=j by omega]
theorem tgV_fly (h:xn gs bs) (v:Value):(tgV k gs bs fly wts dn nm).set 83 v=tgV k gs bs v wts dn nm:=tgV_tail h 0 v
theorem tgV_dn (h:xn gs bs) (v:Value):(tgV k gs bs fly wts dn nm).set 85 v=tgV k gs bs fly wts v nm:=tgV_tail h 2 v
theorem tgV_nm (h:xn gs bs) (n:Int):(tgV k gs bs fly wts dn nm).set 86 (.int .i64 n)=tgV k gs bs fly wts dn n:=tgV_tail h 3 _
theorem tgV_b (h:xn gs bs) {j:Nat} (hj:j<4):(tgV k gs bs fly wts dn nm)[79+j]? = bs[j]? := by
 have hg:=h.g
 have hb:=h.b
 unfold tgV
 rw [show 79+j=(78+j)+1 by omega,List.getElem?_cons_succ,List.getElem?_append_right (by omega),List.getElem?_append_left (by omega),hg,show 78+j - 78=j by omega]
end
theorem szB:(Tryz.prog.info? 103).map (·.size)=some 4:=by kernel_rfl
theorem undB:∃ d,Tryz.prog.underlying 103=some d∧d.isRow=true:=⟨_,Tryz.underlying103,rfl⟩
theorem bxV_one (A:Nat→Option Addr) (N C:Nat→Nat):∀ v ∈ bxV A N C,v.oneCell'=true:=by
 intro v hv
 simp only [bxV,List.mem_cons,List.not_mem_nil,or_false] at hv
 rcases hv with rfl|rfl|rfl|rfl <;> rfl
section
variable {w0 w w' w1:World} {t:Nat} {M M':TM} {p p':TP}
theorem aa.cells (h:aa w0 w t M p):w.cell? ⟨t,0,.none⟩=some (.pointer (some ⟨p.k,0,.none⟩))∧w.cell? ⟨t,83,.none⟩=some p.fv∧w.cell? ⟨t,84,.none⟩=some (.map (some p.m))∧w.cell? ⟨t,85,.none⟩=some p.dv∧w.cell? ⟨t,86,.none⟩=some (.int .i64 M.nm):=by
 obtain ⟨h1,h2,h3,h4⟩:=tgV_at h.len p.k p.fv (.map (some p.m)) p.dv M.nm
 exact ⟨h.hd.cell 0,(h.hd.cell 83).trans h1,(h.hd.cell 84).trans h2,(h.hd.cell 85).trans h3,(h.hd.cell 86).trans h4⟩
theorem aa.froz (h:aa w0 w t M p) (j:Nat) (hj:j<87):w.frozen? ⟨t,j,.none⟩=false:=(h.hd.there j 1 (by rw [show (p.tv M).length=87 from tgV_len h.len];omega) 0 (by decide)).2
theorem aa.loadG (h:aa w0 w t M p):(Instr.loadAt 51 (.pointer (some ⟨t,1,.none⟩))).run Tryz.prog w=.ok (.agg (G.grV M.rs M.up).toArray) w:=load_tg h.hd h.len
theorem aa.loadB (h:aa w0 w t M p):(Instr.loadAt 103 (.pointer (some ⟨t,79,.none⟩))).run Tryz.prog w=.ok (Go.Proofs.YtpkhdihoijkamaaGreatDoor.bx p.A p.N p.C) w:=by
 obtain ⟨d,hd,hr⟩:=undB
 exact run_loadAt_mid w t 79 _ (bxV p.A p.N p.C) d (h.hd.range 79 _ (fun j hj=>tgV_b h.len hj)) hd hr szB
theorem aa.putG (h:aa w0 w t M p) {rs:List G.Rep} {up:List Bool} (ok:G.GOK rs up) :
 ∃ w',(Instr.storeAt 51 (.pointer (some ⟨t,1,.none⟩)) (.agg (G.grV rs up).toArray)).run Tryz.prog w=.ok () w'∧aa w0 w' t { M with rs:=rs,up:=up } p∧ae p.F p.F w w'∧ae (Is t) (Is t) w w':=by
 have A:=At.set (G.grV rs up) 1 _ _ h.hd
 rw [show il (p.tv M) 1 (G.grV rs up)=p.tv { M with rs:=rs,up:=up } from tgV_grp h.len _ ok.vlen] at A
 have hm:ae (Is t) (Is t) w (w.setCells t 1 (G.grV rs up)):=ae.sets (show Is t t from rfl) _ _ _ (ae.refl _ _)
 exact ⟨_,run_storeAt_mid w t 1 _ (G.grV rs up).toArray (by simpa using h.hd.there 1 (G.grV rs up).length (by rw [ok.vlen,show (p.tv M).length=87 from tgV_len h.len];decide)) (by simpa [ok.vlen] using G.sz38) (all_oneCell_toArray (G.tu rs up)),(h.head (nm:=M.nm) hm ok A).1,(h.head (nm:=M.nm) hm ok A).2,hm⟩
theorem aa.putB (h:aa w0 w t M p) (hb:Below w.heap.size w w1) {A:Nat→Option Addr} {N C:Nat→Nat} {L:Nat→List Int} (hB:j6 w1 0 A N C L) (hFr:∀ j,j<4→(A j=p.A j∧N j=p.N j)∨∀ ad,A j=some ad→w.heap.size≤ad.block) :
 ∃ w' p',(Instr.storeAt 103 (.pointer (some ⟨t,79,.none⟩)) (Go.Proofs.YtpkhdihoijkamaaGreatDoor.bx A N C)).run Tryz.prog w1=.ok () w'∧aa w0 w' t { M with L:=L } p'∧p'.b=p.b∧p'.k=p.k∧ae p.F p'.F w w'∧ae (Is t) (Is t) w1 w':=by
 have A1:=At.set (bxV A N C) 79 _ _ (h.later hb).hd
 rw [show il (p.tv M) 79 (bxV A N C)=TP.tv { p with A:=A,N:=N,C:=C } { M with L:=L } from tgV_box h.len _ rfl] at A1
 have hm:ae (Is t) (Is t) w1 (w1.setCells t 79 (bxV A N C)):=ae.sets (show Is t t from rfl) _ _ _ (ae.refl _ _)
 have hx:=h.box hb hm hB hFr A1
 exact ⟨_,_,run_storeAt_mid w1 t 79 _ (bxV A N C).toArray ((h.later hb).hd.there 79 4 (by rw [show (p.tv M).length=87 from tgV_len h.len];decide)) szB (all_oneCell_toArray (bxV_one A N C)),hx.1,rfl,rfl,hx.2,hm⟩
end
end Go.Proofs.YtpkhdihoijkamaaGreatDoor.U
namespace Go.Proofs.YtpkhdihoijkamaaGreatDoor
open Go.ChangeShapes Go.WideShapes Go.ChangeAt Go.RowKit
theorem adb (x k who:Int) (B:Nat) (w:World) (hc:w.cell? ⟨B,0,.none⟩=some (.int .i64 who)) :
 Calls Tryz.prog 192 #[.agg #[.int .i64 x,.int .i64 k],.pointer (some ⟨B,0,.none⟩)] w fun e w'=>e=.returned (.bool (x == who))∧w.alloc (.cells #[.int .i64 x,.int .i64 k] 127)=w':=by
 have hc1:=Lib.cell?_alloc_some (.cells #[.int .i64 x,.int .i64 k] 127) hc
 go_enter Tryz.func192,Tryz.ntmps192
 go_wp2
 go_ret
 exact ⟨rfl,rfl⟩
theorem indexFunc_any (b off n c:Nat) (l:List (Int × Int)) (who:Int) (B:Nat) (w:World) (hr:Row w (some ⟨b,off,.none⟩) n l) (hc:w.cell? ⟨B,0,.none⟩=some (.int .i64 who)) :
 Calls Tryz.prog 212 #[.slice (some ⟨b,off,.none⟩) n c,.func (.func 192) #[] #[.pointer (some ⟨B,0,.none⟩)]] w fun e w' =>
  (∃ i:Int,e=.returned (.int .i64 i)∧((i=-1∧∀ j (h:j<l.length),l[j].1≠who)∨∃ k:Nat,i=k∧∃ h:k<l.length,l[k].1=who∧∀ j (h:j<k),l[j].1≠who))∧Below w.heap.size w w':=by
 obtain ⟨hl,hn,hrow⟩:=hr
 go_enter Tryz.func212,Tryz.ntmps212
 go_wp2
 go_loopw [8] (fun i wr=>∃ k:Nat,k≤n∧i=.int .i64 k∧Below w.heap.size w wr∧Hid (∀ j (h:j<l.length),j<k→l[j].1≠who)) (fun i _=>n - (intOf i).toNat)
 case atStart=>exact ⟨0,Nat.zero_le _,rfl,Below.refl _ _,fun j _ h=>absurd h (Nat.not_lt_zero _)⟩
 case round =>
  obtain ⟨k,hk,rfl,hb,hall⟩:=hrel
  by_cases hlt:k<n
  ·obtain ⟨b',off',e,hcs⟩:=hrow (by omega)
   simp only [Option.some.injEq,Addr.mk.injEq,and_true] at e
   obtain ⟨rfl,rfl⟩:=e
   have hc0:=cell_later hb (hcs k (by omega)).1
   have hc1:=cell_later hb (hcs k (by omega)).2
   have hcb:=cell_later hb hc
   clear hcs hrow hc
   cases hq:(l[k].1 == who)
   ·go_wp2_with (go_at_call 192;refine (adb _ _ who B _ hcb).mono ?_;rintro e w' ⟨rfl,rfl⟩)
    go_roundw
    case rel=>exact ⟨k+1,by omega,by go_num,hb.alloc hb.size _,fun j hj hjk=>by
     rcases Nat.lt_or_ge j k with h|h
     ·exact hall.out j hj h
     ·have:j=k:=by omega
      subst this
      simpa using hq⟩
    case measure=>simp [intOf];omega
   ·go_wp2_with (go_at_call 192;refine (adb _ _ who B _ hcb).mono ?_;rintro e w' ⟨rfl,rfl⟩)
    go_ret
    exact ⟨⟨(k:Int),rfl,.inr ⟨k,rfl,by omega,by simpa using hq,fun j hj=>hall.out j (by omega) hj⟩⟩,hb.alloc hb.size _⟩
  ·go_wp2
   go_ret
   exact ⟨⟨-1,rfl,.inl ⟨rfl,fun j hj=>hall.out j hj (by omega)⟩⟩,hb⟩
def kept (who:Int) (l:List (Int × Int)):List (Int × Int):=l.filter fun r=>r.1 != who
theorem kept_le (who:Int) (l:List (Int × Int)):(kept who l).length≤l.length:=List.length_filter_le _ _
theorem kept_all {who:Int} {l:List (Int × Int)} (h:∀ j (h:j<l.length),l[j].1≠who):kept who l=l:=by
 refine List.filter_eq_self.2 fun r hr=>?_
 obtain ⟨j,hj,rfl⟩:=List.mem_iff_getElem.1 hr
 simpa using h j hj
theorem ac0 (who:Int) (l:List (Int × Int)) (j:Nat) (h:j<l.length):kept who (l.take (j+1))=kept who (l.take j) ++ (if l[j].1=who then [] else [l[j]]):=by
 rw [List.take_succ_eq_append_getElem h,kept,kept,List.filter_append]
 by_cases e:l[j].1=who <;> simp [e]
theorem set_take2 (x y:Value):∀ (cur:List Value) (p:Nat),p+1<cur.length→((cur.set p x).set (p+1) y).take (p+2)=cur.take p ++ [x,y]
 | [],_,h=>by simp at h
 | [_],p,h=>by simp at h
 | _ :: _ :: r,0,_=>by simp
 | _ :: b :: r,p+1,h=>by
   have:=set_take2 x y (b :: r) p (by simpa using h)
   simpa using this
theorem set_drop2 (cur:List Value) (p q:Nat) (x y:Value) (h:p+2≤q):((cur.set p x).set (p+1) y).drop q=cur.drop q:=by
 rw [List.drop_set_of_lt (by omega),List.drop_set_of_lt (by omega)]
def Mid (who:Int) (w:World) (g cap:Nat) (l:List (Int × Int)) (i j:Nat):Prop :=
 i=(kept who (l.take j)).length∧i<j∧j≤l.length∧l.length≤cap∧∃ cur:List Value,w.heap[g]? = some (.cells cur.toArray 127 (0,0))∧cur.length=cap*2∧cur.take (i*2)=flat (kept who (l.take j))∧(cur.drop (j*2)).take ((l.length - j)*2)=flat (l.drop j)
theorem Mid.later {who:Int} {w w':World} {g cap i j B:Nat} {l:List (Int × Int)} (h:Mid who w g cap l i j) (hb:Below B w w') (hg:g<B):Mid who w' g cap l i j:=by
 obtain ⟨h1,h2,h3,h4,cur,h5,h6⟩:=h
 exact ⟨h1,h2,h3,h4,cur,by rw [hb.block g hg];exact h5,h6⟩
theorem Mid.lt {who:Int} {w:World} {g cap i j:Nat} {l:List (Int × Int)} (h:Mid who w g cap l i j):g<w.heap.size:=by
 obtain ⟨_,_,_,_,cur,h5,_⟩:=h
 exact (Array.getElem?_eq_some_iff.1 h5).1
theorem ac9:∀ (l:List (Int × Int)) (k:Nat),flat (l.take k)=(flat l).take (k*2)
 | [],k=>by simp [flat]
 | r :: l,0=>by simp [flat]
 | r :: l,k+1=>by rw [show (k+1)*2=k*2+1+1 by omega];simp [flat,ac9 l k]
theorem abz:∀ (l:List (Int × Int)) (k:Nat),flat (l.drop k)=(flat l).drop (k*2)
 | [],k=>by simp [flat]
 | r :: l,0=>by simp [flat]
 | r :: l,k+1=>by rw [show (k+1)*2=k*2+1+1 by omega];simp [flat,abz l k]
theorem Mid.start {who:Int} {w:World} {base g cap:Nat} {l:List (Int × Int)} (ho:Own w base g cap l) {k:Nat} (hk:k<l.length) (he:l[k].1=who) (ha:∀ j (h:j<k),l[j].1≠who):Mid who w g cap l k (k+1):=by
 obtain ⟨_,hl,_,cur,hg,hs,ht⟩:=ho
 have e1:kept who (l.take (k+1))=l.take k:=by
  rw [ac0 who l k hk,if_pos he,List.append_nil]
  exact kept_all fun j hj=>by simp at hj ⊢;exact ha j (by omega)
 refine ⟨by rw [e1];simp;omega,by omega,by omega,hl,cur,hg,hs,?_,?_⟩
 ·rw [e1,ac9,←ht,List.take_take,Nat.min_eq_left (by omega)]
 ·rw [abz,←ht,List.drop_take,Nat.sub_mul]
theorem Mid.cells {who:Int} {w:World} {g cap i j:Nat} {l:List (Int × Int)} (h:Mid who w g cap l i j) (hj:j<l.length) :
 w.cell? ⟨g,j*2,.none⟩=some (.int .i64 l[j].1)∧w.cell? ⟨g,j*2+1,.none⟩=some (.int .i64 l[j].2)∧(∃ v,w.cell? ⟨g,i*2,.none⟩=some v)∧(∃ v,w.cell? ⟨g,i*2+1,.none⟩=some v) ∧
  w.frozen? ⟨g,i*2,.none⟩=false∧w.frozen? ⟨g,i*2+1,.none⟩=false:=by
 obtain ⟨h1,h2,h3,h4,cur,hg,hs,ht,hd⟩:=h
 have cell:∀ p,w.cell? ⟨g,p,.none⟩=cur[p]? := fun p=>by simp [World.cell?,hg]
 have hd0:=congrArg (fun x:List Value=>x[0]?) hd
 have hd1:=congrArg (fun x:List Value=>x[1]?) hd
 rw [List.drop_eq_getElem_cons hj] at hd0 hd1
 simp [flat,List.getElem?_take] at hd0 hd1
 refine ⟨?_,?_,?_,?_,by simp [World.frozen?,hg],by simp [World.frozen?,hg]⟩
 ·rw [cell];exact hd0.2
 ·rw [cell];exact hd1.2
 ·exact ⟨_,by rw [cell];exact List.getElem?_eq_getElem (by omega)⟩
 ·exact ⟨_,by rw [cell];exact List.getElem?_eq_getElem (by omega)⟩
theorem drop_step {cur:List Value} {l:List (Int × Int)} {j:Nat} (hj:j<l.length) (hd:(cur.drop (j*2)).take ((l.length - j)*2)=flat (l.drop j)):(cur.drop ((j+1)*2)).take ((l.length - (j+1))*2)=flat (l.drop (j+1)):=by
 have:=congrArg (List.drop 2) hd
 rw [List.drop_take,List.drop_drop] at this
 rw [show l.drop (j+1)=(l.drop j).drop 1 by rw [List.drop_drop],abz (l.drop j) 1,←this]
 rw [show (j+1)*2=j*2+2 by omega,show (l.length - (j+1))*2=(l.length - j)*2 - 2 by omega]
theorem Mid.skip {who:Int} {w:World} {g cap i j:Nat} {l:List (Int × Int)} (h:Mid who w g cap l i j) (hj:j<l.length) (he:l[j].1=who):Mid who w g cap l i (j+1):=by
 obtain ⟨h1,h2,h3,h4,cur,hg,hs,ht,hd⟩:=h
 have e:kept who (l.take (j+1))=kept who (l.take j):=by rw [ac0 who l j hj,if_pos he,List.append_nil]
 exact ⟨by rw [e];exact h1,by omega,by omega,h4,cur,hg,hs,by rw [e];exact ht,drop_step hj hd⟩
theorem Mid.keep {who:Int} {w:World} {g cap i j:Nat} {l:List (Int × Int)} (h:Mid who w g cap l i j) (hj:j<l.length) (he:l[j].1≠who) :
 Mid who ((w.setCell ⟨g,i*2,.none⟩ (.int .i64 l[j].1)).setCell ⟨g,i*2+1,.none⟩ (.int .i64 l[j].2)) g cap l (i+1) (j+1):=by
 obtain ⟨h1,h2,h3,h4,cur,hg,hs,ht,hd⟩:=h
 have e:kept who (l.take (j+1))=kept who (l.take j) ++ [l[j]]:=by rw [ac0 who l j hj,if_neg he]
 refine ⟨by rw [e];simp [←h1],by omega,by omega,h4,(cur.set (i*2) (.int .i64 l[j].1)).set (i*2+1) (.int .i64 l[j].2),?_,by simpa using hs,?_,?_⟩
 ·have:=heap_setCell_same _ g (i*2+1) _ _ (.int .i64 l[j].2) (heap_setCell_same w g (i*2) _ _ (.int .i64 l[j].1) hg)
  simpa using this
 ·rw [show (i+1)*2=i*2+2 by omega,set_take2 _ _ _ _ (by omega),ht,e,aaq];rfl
 ·rw [set_drop2 _ _ _ _ _ (by omega)];exact drop_step hj hd
theorem zeros_one (m:Nat):∀ v ∈ (Builtin.zeroCells (Value.agg #[.int .i64 0,.int .i64 0]).cells m).toList,v.oneCell'=true:=by
 intro v hv
 simp [Builtin.zeroCells,Value.cells] at hv
 obtain ⟨j,_,rfl⟩:=hv
 rcases Nat.mod_two_eq_zero_or_one j with h|h <;> simp [h] <;> rfl
theorem run_clear_own (w:World) (g p m c:Nat) (cur:List Value) (hg:w.heap[g]? = some (.cells cur.toArray 127 (0,0))) (hm:0<m) (hfit:p+m*2≤cur.length) :
 ∃ cur':List Value,cur'.length=cur.length∧cur'.take p=cur.take p∧∀ ty,(Builtin.clear_ #[34] ty #[.slice (some ⟨g,p,.none⟩) m c]).run Tryz.prog w=.ok (.tuple #[]) (w.setRow g cur'.toArray):=by
 have hz:(Builtin.zeroCells (Value.agg #[.int .i64 0,.int .i64 0]).cells m).size=m*2:=by rw [size_zeroCells];rfl
 have hv:∀ w,(zeroValue 127).run Tryz.prog w=.ok (.agg #[.int .i64 0,.int .i64 0]) w:=Tryz.zeroValue127
 have hst:=run_storeCells_at Tryz.prog g p 127 (Builtin.zeroCells (Value.agg #[.int .i64 0,.int .i64 0]).cells m).toList 0 cur.toArray w hg (by simp [hz];omega) (zeros_one m)
 refine ⟨cur.take p ++ (Builtin.zeroCells (Value.agg #[.int .i64 0,.int .i64 0]).cells m).toList ++ cur.drop (p+m*2),by simp [hz];omega,by simp [List.take_append];rw [List.take_of_length_le (by simp;omega)];simp;omega,fun ty=>?_⟩
 obtain ⟨k,rfl⟩:∃ k,m=k+1:=⟨m - 1,by omega⟩
 simp [Builtin.clear_,run_underlying Tryz.underlying34,hv]
 simp [hz] at hst
 simp [hst]
theorem ado {w w':World} {a:Addr} {v:Value} (hb:Below w.heap.size w w') (hc:w.cell? a=some v) (h:w.frozen? a=false):w'.frozen? a=false:=by
 rw [hb.frozen (World.block_lt_of_cell? _ _ hc)];exact h
theorem deleteFunc_any (g cap:Nat) (l:List (Int × Int)) (who:Int) (B base:Nat) (w:World) (ho:Own w base g cap l) (hB:B<base) (hc:w.cell? ⟨B,0,.none⟩=some (.int .i64 who)) :
 Calls Tryz.prog 193 #[.slice (some ⟨g,0,.none⟩) l.length cap,.func (.func 192) #[] #[.pointer (some ⟨B,0,.none⟩)]] w fun e w' =>
  e=.returned (.slice (some ⟨g,0,.none⟩) (kept who l).length cap)∧Own w' base g cap (kept who l)∧Below base w w':=by
 have hglt:=ho.lt
 have hbg:=ho.1
 have hncap:=ho.2.1
 have hcap:=ho.2.2.1
 generalize hn:l.length=n at *
 have HO:Hid (Own w base g cap l):=ho
 have hrow:=ho.row
 rw [hn] at hrow
 have HR:Hid (Row w (some ⟨g,0,.none⟩) n l):=hrow
 clear hrow ho
 go_enter Tryz.func193,Tryz.ntmps193
 go_wp2_with fail
 refine (indexFunc_any g 0 n cap l who B w HR.out hc).mono ?_
 rintro e w1 ⟨⟨i,rfl,hi⟩,hb1⟩
 rcases hi with ⟨rfl,hall⟩|⟨k,rfl,hk,he,ha⟩
 ·have hk:=kept_all hall
  clear hall
  go_wp2
  go_ret
  rw [hk,hn]
  exact ⟨rfl,HO.out.later hb1 hglt,hb1.mono (by omega)⟩
 ·have hne:((k:Int) == -1)=false:=beq_eq_false_iff_ne.2 (by omega)
  have hM:=Mid.start (HO.out.later hb1 hglt) hk he ha
  have hbw:=hb1.mono (show base≤w.heap.size by omega)
  clear HR ha he
  go_wp2
  go_loopw [5,6] (fun u v wr=>∃ i j:Nat,u=.int .i64 i∧v=.int .i64 j∧Mid who wr g cap l i j∧Below base w wr) (fun _ v _=>n - (intOf v).toNat)
  case atStart=>exact ⟨k,k+1,rfl,by go_num,hM,hbw⟩
  case round =>
   clear hM hbw hb1 hne
   obtain ⟨i,j,rfl,rfl,hM,hbw⟩:=hrel
   have hij:=hM.2.1
   have hjn:=hM.2.2.1
   rw [hn] at hjn
   have hmlt:=hM.lt
   by_cases hlt:j<n
   ·obtain ⟨c0,c1,⟨v0,o0⟩,⟨v1,o1⟩,f0,f1⟩:=hM.cells (by omega)
    have hcb:wr.cell? ⟨B,0,.none⟩=some (.int .i64 who):=by rw [hbw.cell (p:=⟨B,0,.none⟩) hB];exact hc
    have hb2:Below wr.heap.size wr ((wr.alloc (.cells #[.int .i64 l[j].1,.int .i64 l[j].2] 127)).alloc (.cells #[.int .i64 l[j].1,.int .i64 l[j].2] 127)):=((Below.refl _ _).alloc (Nat.le_refl _) _).alloc (by simp) _
    have e0:=cell_later hb2 o0
    have e1:=cell_later hb2 o1
    have f0':=ado hb2 o0 f0
    have f1':=ado hb2 o1 f1
    have hM2:=hM.later hb2 hmlt
    have hbw2:=hbw.trans (hb2.mono (show base≤wr.heap.size by omega))
    cases hq:(l[j].1 == who)
    ·have HK:Hid (Mid who ((wr.setCell ⟨g,i*2,.none⟩ (.int .i64 l[j].1)).setCell ⟨g,i*2+1,.none⟩ (.int .i64 l[j].2)) g cap l (i+1) (j+1)):=hM.keep (by omega) (by simpa using hq)
     clear hM hM2 hc
     go_wp2_with (go_at_call 192;refine (adb _ _ who B _ (by exact Lib.cell?_alloc_some _ hcb)).mono ?_;rintro e w' ⟨rfl,rfl⟩)
     go_roundw
     case rel =>
      refine ⟨i+1,j+1,by go_num,by go_num,Mid.later HK.out (((Below.refl _ _).alloc (Nat.le_refl _) _).alloc (by simp) _) (by simpa [World.setCell] using hmlt),?_⟩
      exact (((hbw.setCell (by exact hbg) _).setCell (by exact hbg) _).alloc (by simp [World.setCell];omega) _).alloc (by simp [World.setCell];omega) _
     case measure=>simp [intOf];omega
    ·have HK:Hid _:=hM2.skip (by omega) (by simpa using hq)
     clear hM hM2 hc
     go_wp2_with (go_at_call 192;refine (adb _ _ who B _ (by exact Lib.cell?_alloc_some _ hcb)).mono ?_;rintro e w' ⟨rfl,rfl⟩)
     go_roundw
     case rel=>exact ⟨i,j+1,rfl,by go_num,HK.out,hbw2⟩
     case measure=>simp [intOf];omega
   ·have hje:j=n:=by omega
    subst hje
    obtain ⟨h1,h2,h3,h4,cur,hg,hs,ht,hd⟩:=hM
    rw [←hn,List.take_length] at h1 ht
    obtain ⟨cur',hl',ht',hcl⟩:=run_clear_own wr g (i*2) (j - i) (cap - i) cur hg (by omega) (by omega)
    have HC:Hid (i=(kept who l).length):=h1
    have HO':Hid (Own (wr.setRow g cur'.toArray) base g cap (kept who l)):=by
     refine ⟨hbg,by omega,hcap,cur',setRow_heap wr g _ _ _ _ hg,by omega,?_⟩
     rw [←h1,ht',ht]
    clear h1 ht hd hg ht' hl' hc
    go_wp2
    go_ret
    refine ⟨by rw [←HC.out];rfl,HO'.out,?_⟩
    exact hbw.trans ⟨rfl,rfl,rfl,by simp [World.setRow],fun k hk=>setRow_other wr g k _ (by omega)⟩
theorem size_reg:(Tryz.prog.info? 127).map (·.size)=some 2:=by kernel_rfl
theorem ac7 (w:World) (g p dLen dCap:Nat) (ad:Addr) (sLen sCap:Nat) (cur cs:List Value) (ty:TypeId) (hg:w.heap[g]? = some (.cells cur.toArray 127 (0,0))) (hn:cs.length=Nat.min sLen dLen*2)
 (hsrc:∀ j v,cs[j]? = some v→w.cell? (ad.add j)=some v) (hfit:p+cs.length≤cur.length) (h1:∀ v ∈ cs,v.oneCell'=true) :
 (Builtin.copy_ #[34,34] ty #[.slice (some ⟨g,p,.none⟩) dLen dCap,.slice (some ad) sLen sCap]).run Tryz.prog w=.ok (goInt (Nat.min sLen dLen)) (w.setRow g (cur.take p ++ cs ++ cur.drop (p+cs.length)).toArray):=by
 have hl:=run_loadCells_list (P:=Tryz.prog) w ad cs hsrc
 have hst:=run_storeCells_at Tryz.prog g p 127 cs 0 cur.toArray w hg (by simpa using hfit) h1
 have hs:=size_reg
 cases hq:Tryz.prog.info? 127 with
 | none=>simp [hq] at hs
 | some i =>
   have hi:i.size=2:=by simpa [hq] using hs
   simp [Builtin.copy_,run_underlying Tryz.underlying34,Builtin.lenOf,Builtin.firstCells,sizeOf,typeInfo,hq,hi,←hn,hl,hst]
def put (l:List (Int × Int)) (i:Nat) (r:Int × Int):List (Int × Int):=l.take i ++ r :: l.drop i
theorem ab7 (l:List (Int × Int)) (i:Nat) (r:Int × Int) (h:i≤l.length):(put l i r).length=l.length+1:=by simp [put];omega
theorem ab5 {w:World} {a:Nat} {x k:Int} (c0:w.cell? ⟨a,0,.none⟩=some (.int .i64 x)) (c1:w.cell? ⟨a,1,.none⟩=some (.int .i64 k)) :
 ∀ j u,[Value.int .i64 x,.int .i64 k][j]? = some u→w.cell? ((⟨a,0,.none⟩:Addr).add j)=some u:=by
 intro j u hj
 match j with
 | 0=>simp at hj;subst hj;simpa [Addr.add] using c0
 | 1=>simp at hj;subst hj;simpa [Addr.add] using c1
 | j+2=>simp at hj
theorem one_one (x k:Int):∀ u ∈ [Value.int .i64 x,.int .i64 k],u.oneCell'=true:=by
 intro u hu
 simp at hu
 rcases hu with rfl|rfl <;> rfl
theorem put_end (l:List (Int × Int)) (x k:Int):flat l ++ [.int .i64 x,.int .i64 k]=flat (put l l.length (x,k)):=by
 rw [put,List.take_of_length_le (Nat.le_refl _),List.drop_of_length_le (Nat.le_refl _),aaq];rfl
theorem ins_nil (a c:Nat) (base:Nat) (x k:Int) (w:World) (hbase:base≤w.heap.size) (c0:w.cell? ⟨a,0,.none⟩=some (.int .i64 x)) (c1:w.cell? ⟨a,1,.none⟩=some (.int .i64 k)) :
 Calls Tryz.prog 194 #[.slice .none 0 0,.int .i64 0,.slice (some ⟨a,0,.none⟩) 1 c] w fun e w'=>∃ g cap,e=.returned (.slice (some ⟨g,0,.none⟩) 1 cap)∧Own w' base g cap [(x,k)]∧Below base w w':=by
 obtain ⟨i0,hi,hz0,hz1,hz2⟩:=ab1
 have hnews:=ab5 c0 c1
 have HO:Hid (w.ownsRow base 127 2 (.slice .none 0 0) 0 []):=⟨rfl,.inl ⟨rfl,rfl⟩⟩
 have HN:Hid _:=hnews
 clear hnews
 go_enter Tryz.func194,Tryz.ntmps194
 go_wp2_with (at_builtin;refine wpList_append_own _ rfl _ _ 34 rfl base 127 i0 _ 2 16 Tryz.underlying34 hi hz0 hz1 hz2 rfl (by decide) _ _ _ rfl HO.out ⟨a,0,.none⟩ 1 c [.int .i64 x,.int .i64 k] rfl rfl HN.out (one_one x k) (by decide) (by decide) hbase ?_)
 intro v' w1 hown hgrow hnil
 go_wp2
 go_ret
 have hown':w1.ownsRow base 127 2 v' 1 (flat [(x,k)]):=by simpa [flat] using hown
 obtain ⟨g,cap,rfl,ho⟩:=Own.ofRow rfl hown' (by simpa using hnil)
 exact ⟨g,cap,rfl,ho,(Below.refl _ w).grown hgrow hbase (by intro kk hk;simp [Value.ownBlock] at hk)⟩
theorem ins_end (a c g cap:Nat) (base:Nat) (l:List (Int × Int)) (x k:Int) (w:World) (ho:Own w base g cap l) (hn:l.length≤1000000) (c0:w.cell? ⟨a,0,.none⟩=some (.int .i64 x)) (c1:w.cell? ⟨a,1,.none⟩=some (.int .i64 k)) :
 Calls Tryz.prog 194 #[.slice (some ⟨g,0,.none⟩) l.length cap,.int .i64 (l.length:Int),.slice (some ⟨a,0,.none⟩) 1 c] w fun e w' =>
  ∃ g' cap',e=.returned (.slice (some ⟨g',0,.none⟩) (l.length+1) cap')∧Own w' base g' cap' (put l l.length (x,k))∧Below base w w':=by
 obtain ⟨i0,hi,hz0,hz1,hz2⟩:=ab1
 have hglt:=ho.lt
 have hbg:=ho.1
 have hncap:=ho.2.1
 have hcap:=ho.2.2.1
 have hput:=put_end l x k
 have hpl:(put l l.length (x,k)).length=l.length+1:=ab7 _ _ _ (Nat.le_refl _)
 have HN:Hid (∀ j u,[Value.int .i64 x,.int .i64 k][j]? = some u→w.cell? ((⟨a,0,.none⟩:Addr).add j)=some u):=ab5 c0 c1
 have HO:Hid (w.ownsRow base 127 2 (.slice (some ⟨g,0,.none⟩) l.length cap) l.length (flat l)):=ho.toRow
 clear ho c0 c1
 generalize put l l.length (x,k)=pl at *
 have HP:Hid (flat l ++ [.int .i64 x,.int .i64 k]=flat pl):=hput
 clear hput
 generalize l.length=n at *
 go_enter Tryz.func194,Tryz.ntmps194
 go_wp2_with (at_builtin;refine wpList_append_own _ rfl _ _ 34 rfl base 127 i0 _ 2 16 Tryz.underlying34 hi hz0 hz1 hz2 rfl (by decide) _ _ _ rfl HO.out ⟨a,0,.none⟩ 1 c [.int .i64 x,.int .i64 k] rfl rfl HN.out (one_one x k) (by simp only [maxLen];omega) (by omega) (by omega) ?_)
 all_goals
  intro v' w1 hown hgrow hnil
  go_wp2
  go_ret
  have hown':w1.ownsRow base 127 2 v' (n+1) (flat pl):=by rw [←HP.out];exact hown
  obtain ⟨g',cap',rfl,ho⟩:=Own.ofRow hpl hown' (by simpa using hnil)
  exact ⟨g',cap',rfl,ho,(Below.refl _ w).grown hgrow (by omega) (by intro kk hk;simp [Value.ownBlock] at hk;omega)⟩
theorem run_overlaps_no (w:World) (a g c:Nat) (xs:Array Value) (cur:List Value) (hne:a≠g) (ha:w.heap[a]? = some (.cells xs 127 (0,0))) (hg:w.heap[g]? = some (.cells cur.toArray 127 (0,0))) (hl:cur.length≠0) :
 ∀ off lb cb,(callFunc 213 #[.slice (some ⟨a,0,.none⟩) 1 c,.slice (some ⟨g,off,.none⟩) lb cb]).run Tryz.prog w=.ok (.value (.bool false)) w:=fun off lb cb=>by
 rw [run_callFunc_extern Tryz.func213 (by kernel_rfl) (by kernel_rfl) (by kernel_rfl) (e:=Extern.SlicesOverlaps.overlaps #[34,34] #[4]) (by kernel_rfl),
  Lib.run_overlaps_apart w 34 4 127 Tryz.underlying34 2 Tryz.sizeOf127 ⟨a,0,.none⟩ ⟨g,off,.none⟩ 1 c lb cb hne 127 127 xs.size cur.length (by simp [World.shape?,ha]) (by simp [World.shape?,hg]) hl (by simp [World.frozen?,ha]) (by simp [World.frozen?,ha])]
 rfl
theorem splice2 (l:List (Int × Int)) (i:Nat) (x k:Int) (cur:List Value) (cap:Nat) (hi:i<l.length) (hroom:l.length+1≤cap) (hs:cur.length=cap*2) (ht:cur.take (l.length*2)=flat l) (r1 r2:List Value)
 (h1:r1=cur.take ((i+1)*2) ++ flat (l.drop i) ++ cur.drop ((i+1)*2+(flat (l.drop i)).length))
 (h2:r2=r1.take (i*2) ++ [.int .i64 x,.int .i64 k] ++ r1.drop (i*2+[Value.int .i64 x,.int .i64 k].length)) :
 r1.length=cap*2∧r2.length=cap*2∧r2.take ((put l i (x,k)).length*2)=flat (put l i (x,k)):=by
 have hfl:(flat (l.drop i)).length=(l.length - i)*2:=by rw [q9,List.length_drop]
 have l1:r1.length=cap*2:=by rw [h1];simp [hfl];omega
 have l2:r2.length=cap*2:=by rw [h2];simp;omega
 refine ⟨l1,l2,?_⟩
 have e1:r1.take (i*2)=flat (l.take i):=by
  rw [h1,List.append_assoc,List.take_append_of_le_length (by simp;omega),List.take_take,Nat.min_eq_left (by omega),ac9,←ht,List.take_take,Nat.min_eq_left (by omega)]
 have e2:r1.drop (i*2+2)=flat (l.drop i) ++ cur.drop ((i+1)*2+(flat (l.drop i)).length):=by
  rw [h1,List.append_assoc,List.drop_append_of_le_length (by simp;omega),List.drop_of_length_le (by simp;omega),List.nil_append]
 have e3:r2=flat (put l i (x,k)) ++ cur.drop ((i+1)*2+(flat (l.drop i)).length):=by
  rw [h2,e1,show [Value.int .i64 x,.int .i64 k].length=2 from rfl,e2,put,aaq];simp [flat]
 rw [e3,List.take_append_of_le_length (by rw [q9];exact Nat.le_refl _),List.take_of_length_le (by rw [q9];exact Nat.le_refl _)]
theorem ins_room (a c g cap i:Nat) (base:Nat) (l:List (Int × Int)) (x k:Int) (w:World) (ho:Own w base g cap l) (hi:i<l.length) (hroom:l.length+1≤cap) (hn:l.length≤1000000) (hag:a≠g) (ha:w.heap[a]? = some (.cells #[.int .i64 x,.int .i64 k] 127 (0,0))) :
 Calls Tryz.prog 194 #[.slice (some ⟨g,0,.none⟩) l.length cap,.int .i64 (i:Int),.slice (some ⟨a,0,.none⟩) 1 c] w fun e w' =>
  ∃ g' cap',e=.returned (.slice (some ⟨g',0,.none⟩) (l.length+1) cap')∧Own w' base g' cap' (put l i (x,k))∧Below base w w':=by
 obtain ⟨hbg,hncap,hcap,cur,hg,hs,ht⟩:=ho
 have hov:=run_overlaps_no w a g c _ cur hag ha hg (by omega)
 have hcpos:∀ p,w.drew.cell? ⟨g,p,.none⟩=cur[p]? := fun p=>by show w.cell? ⟨g,p,.none⟩=_;simp [World.cell?,hg]
 have hfl:(flat (l.drop i)).length=(l.length - i)*2:=by rw [q9,List.length_drop]
 have hsrc:∀ j v,(flat (l.drop i))[j]? = some v→w.drew.cell? ((⟨g,i*2,.none⟩:Addr).add j)=some v:=by
  intro j v hj
  rw [Addr.add_lit,hcpos]
  rw [abz,List.getElem?_drop,←ht,List.getElem?_take] at hj
  split at hj
  ·exact hj
  ·cases hj
 obtain ⟨r1,hr1⟩:∃ r1,r1=cur.take ((i+1)*2) ++ flat (l.drop i) ++ cur.drop ((i+1)*2+(flat (l.drop i)).length):=⟨_,rfl⟩
 have hcp1:∀ ty dc sc,(Builtin.copy_ #[34,34] ty #[.slice (some ⟨g,(i+1)*2,.none⟩) (l.length - i) dc,.slice (some ⟨g,i*2,.none⟩) (l.length+1 - i) sc]).run Tryz.prog w.drew=.ok (goInt (Nat.min (l.length+1 - i) (l.length - i))) (w.drew.setRow g r1.toArray):=fun ty dc sc=>by
  rw [hr1]
  exact ac7 w.drew g ((i+1)*2) (l.length - i) dc ⟨g,i*2,.none⟩ (l.length+1 - i) sc cur _ ty hg (by rw [hfl];congr 1;exact (Nat.min_eq_right (by omega)).symm) hsrc (by rw [hfl];omega) (ab9 _)
 obtain ⟨r2,hr2⟩:∃ r2,r2=r1.take (i*2) ++ [.int .i64 x,.int .i64 k] ++ r1.drop (i*2+[Value.int .i64 x,.int .i64 k].length):=⟨_,rfl⟩
 obtain ⟨hl1,hl2,ht2⟩:=splice2 l i x k cur cap hi hroom hs ht r1 r2 hr1 hr2
 have hg1:(w.drew.setRow g r1.toArray).heap[g]? = some (.cells r1.toArray 127 (0,0)):=setRow_heap w.drew g _ _ _ _ hg
 have hsrc2:∀ j v,[Value.int .i64 x,.int .i64 k][j]? = some v→(w.drew.setRow g r1.toArray).cell? ((⟨a,0,.none⟩:Addr).add j)=some v:=by
  have hh:(w.drew.setRow g r1.toArray).heap[a]? = some (.cells #[.int .i64 x,.int .i64 k] 127 (0,0)):=by rw [setRow_other _ _ _ _ hag];exact ha
  exact ab5 (by simp [World.cell?,hh]) (by simp [World.cell?,hh])
 have hcp2:∀ ty dc,(Builtin.copy_ #[34,34] ty #[.slice (some ⟨g,i*2,.none⟩) (l.length+1 - i) dc,.slice (some ⟨a,0,.none⟩) 1 c]).run Tryz.prog (w.drew.setRow g r1.toArray)=.ok (goInt (Nat.min 1 (l.length+1 - i))) ((w.drew.setRow g r1.toArray).setRow g r2.toArray):=fun ty dc=>by
  rw [hr2]
  exact ac7 _ g (i*2) (l.length+1 - i) dc ⟨a,0,.none⟩ 1 c r1 _ ty hg1 (by show 2=Nat.min 1 (l.length+1 - i)*2;have:Nat.min 1 (l.length+1 - i)=1:=Nat.min_eq_left (by omega);rw [this]) hsrc2 (by simp;omega) (one_one x k)
 have HO:Hid (Own ((w.drew.setRow g r1.toArray).setRow g r2.toArray) base g cap (put l i (x,k))):=⟨hbg,by rw [ab7 _ _ _ (by omega)];omega,hcap,r2,setRow_heap _ g _ _ _ _ hg1,hl2,ht2⟩
 have HB:Hid (Below base w ((w.drew.setRow g r1.toArray).setRow g r2.toArray)):=⟨rfl,rfl,rfl,by simp,fun kk hkk=>by rw [setRow_other _ _ _ _ (by omega),setRow_other _ _ _ _ (by omega)];rfl⟩
 clear ha hg ht hs hcpos hfl hsrc hr1 hr2 hl1 hl2 ht2 hg1 hsrc2
 generalize hl:l.length=n at *
 have HL:Hid (l.length=n):=hl
 clear hl
 have hz2:((i:Int) == (n:Int))=false:=beq_eq_false_iff_ne.2 (by omega)
 have hb2:¬(cap=i+1):=by omega
 have hb4:¬(cap=i):=by omega
 have hgt:decide ((cap:Int)<(n:Int)+1)=false:=by simp;omega
 have hw1:IntKind.i64.wrap ((i:Int)+1)=(i:Int)+1:=by rw [IntKind.wrap_i64];omega
 have hb1:(0:Int)≤(i:Int)+1:=by omega
 have hin:i≤n:=by omega
 have htn:((i:Int)+1).toNat=i+1:=by omega
 have hb3:(i:Int)≤(n:Int)+1:=by omega
 have hb5:(i:Int)+1≤(n:Int)+1:=by omega
 go_enter Tryz.func194,Tryz.ntmps194
 go_wp2_with (simp only [hov])
 go_region_law (refine step_copy_run rfl _ _ 34 34 rfl _ _ (by simp [Act.eval,Act.put]) (by simp [Act.eval,Act.put]) (hcp1 _ _ _) ?_)
 go_wp2_with (at_builtin;refine wpList_copy_run _ rfl _ _ 34 34 rfl _ _ rfl rfl (hcp2 _ _) ?_)
 go_ret
 exact ⟨g,cap,rfl,HO.out,HB.out⟩
end Go.Proofs.YtpkhdihoijkamaaGreatDoor
