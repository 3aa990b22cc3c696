/- Several texts of this seat in one: UJoin, Blk, DBase, DStep, DRead, DDel. No statement of the seat is proved here. -/
import Derived.Test.YtpkhdihoijkamaaGreatDoorRows
import Derived.Below
import Derived.WalkKit
import Derived.WalkSpells
import Derived.WalkLawsBesides
import Derived.ProofKit
import Derived.OpenShut
import Derived.ChangeOld
import Derived.Deep.Fields
import Derived.Deep.QuietTactic
import Derived.BigQuiet
import Derived.Deep.MidRow
import Derived.Deep.Quiet
import Derived.Deep.RegionHeld3
import Derived.Deep.DeepCutAuto
import Derived.Lib.BufferWrite
import Derived.Lib.SlBytesRow
set_option maxHeartbeats 2000000
namespace Go.Proofs.YtpkhdihoijkamaaGreatDoor.U
open Go.RowKit
theorem joinW1 {P F:World→Nat→Prop} {G:Prop} (h1:Hid (∀ w a,F w a→P w a)→G) (h2:∀ w a,F w a→P w a):G:=h1 h2
theorem joinW2 {P F:World→Nat→Nat→Prop} {G:Prop} (h1:Hid (∀ w a b,F w a b→P w a b)→G) (h2:∀ w a b,F w a b→P w a b):G:=h1 h2
end Go.Proofs.YtpkhdihoijkamaaGreatDoor.U
namespace Go.Proofs.YtpkhdihoijkamaaGreatDoor.D
open Go.ChangeShapes Go.WideShapes Go.ChangeAt Go.RowKit Go.Deep
theorem fq {a b:Bool} (h:a=b):Ending.returned (.bool a)=.returned (.bool b):=by rw [h]
def At (W:World) (b:Nat) (l:List Value) (T:TypeId):Prop:=W.heap[b]? = some (.cells l.toArray T (0,0))
theorem At.cell {W:World} {b:Nat} {l:List Value} {T:TypeId} (h:At W b l T) (j:Nat):W.cell? ⟨b,j,.none⟩=l[j]? := by
 simp [World.cell?,show W.heap[b]? = _ from h]
theorem At.range {W:World} {b:Nat} {l:List Value} {T:TypeId} (h:At W b l T) (o:Nat) (cs:List Value) (hc:∀ j,j<cs.length→l[o+j]? = cs[j]?):W.rangeAt b o cs:=fun j v hv=>by
 rw [h.cell,hc j (List.getElem?_eq_some_iff.1 hv).1,hv]
theorem At.whole {W:World} {b:Nat} {l:List Value} {T:TypeId} (h:At W b l T):W.rangeAt b 0 l:=h.range 0 l (fun j _=>by rw [Nat.zero_add])
theorem At.there {W:World} {b:Nat} {l:List Value} {T:TypeId} (h:At W b l T) (o n:Nat) (ho:o+n≤l.length):W.there b o n:=fun j hj=>by
 refine ⟨?_,?_⟩
 ·rw [h.cell,List.getElem?_eq_getElem (by omega)];rfl
 ·simp [World.frozen?,show W.heap[b]? = _ from h]
theorem At.later {W W':World} {b B:Nat} {l:List Value} {T:TypeId} (h:At W b l T) (hb:Below B W W') (hB:b<B):At W' b l T:=by
 unfold At;rw [hb.block _ hB];exact h
theorem At.lt {W:World} {b:Nat} {l:List Value} {T:TypeId} (h:At W b l T):b<W.heap.size:=(Array.getElem?_eq_some_iff.1 h).1
theorem At.setCell_same {W:World} {b:Nat} {l:List Value} {T:TypeId} (h:At W b l T) (j:Nat) (v:Value):At (W.setCell ⟨b,j,.none⟩ v) b (l.set j v) T:=by
 have:=heap_setCell_same W b j _ T v h
 unfold At;rw [this];simp
theorem At.setCell_ne {W:World} {b:Nat} {l:List Value} {T:TypeId} (h:At W b l T) (p:Addr) (hp:b≠p.block) (v:Value):At (W.setCell p v) b l T:=by
 unfold At;rw [Below.heap_setCell _ _ _ _ hp];exact h
def il (l:List Value):Nat→List Value→List Value
 | _,[]=>l
 | o,v :: r=>il (l.set o v) (o+1) r
theorem At.set {T:TypeId} {b:Nat}:∀ (vs:List Value) (o:Nat) (W:World) (l:List Value),At W b l T→At (W.setCells b o vs) b (il l o vs) T
 | [],_,_,_,h=>h
 | v :: r,o,_,_,h=>At.set r (o+1) _ _ (h.setCell_same o v)
theorem At.set_ne {T:TypeId} {b b':Nat} (hne:b≠b') {l:List Value}:∀ (vs:List Value) (o:Nat) (W:World),At W b l T→At (W.setCells b' o vs) b l T
 | [],_,_,h=>h
 | v :: r,o,_,h=>At.set_ne hne r (o+1) _ (h.setCell_ne _ hne v)
theorem aai:∀ (vs pre l:List Value),l.length=vs.length→il (pre ++ l) pre.length vs=pre ++ vs
 | [],pre,l,h=>by have:l=[]:=List.eq_nil_of_length_eq_zero (by simpa using h);subst this;rfl
 | v :: r,pre,[],h=>by simp at h
 | v :: r,pre,x :: l,h=>by
   have:=aai r (pre ++ [v]) l (by simpa using h)
   simp only [il]
   rw [show (pre ++ x :: l).set pre.length v=(pre ++ [v]) ++ l by simp]
   rw [show pre.length+1=(pre ++ [v]).length by simp,this];simp
theorem ik (vs l:List Value) (h:l.length=vs.length):il l 0 vs=vs:=aai vs [] l h
theorem below_setCells {B:Nat} {b:Nat} (hb:B≤b) {w:World}:∀ (vs:List Value) (o:Nat) (W:World),Below B w W→Below B w (W.setCells b o vs)
 | [],_,_,h=>h
 | v :: r,o,_,h=>below_setCells hb r (o+1) _ (h.setCell (by exact hb) v)
theorem size_setCells (b:Nat):∀ (vs:List Value) (o:Nat) (W:World),(W.setCells b o vs).heap.size=W.heap.size
 | [],_,_=>rfl
 | v :: r,o,W=>by rw [World.setCells,size_setCells b r];simp [World.setCell]
theorem two (w:World) (x y:Obj):∃ X,X=(w.alloc x).alloc y∧X.heap[w.heap.size]? = some x∧X.heap[w.heap.size+1]? = some y∧Below w.heap.size w X∧X.heap.size=w.heap.size+2:=by
 refine ⟨_,rfl,?_,?_,((Below.refl _ _).alloc (Nat.le_refl _) _).alloc (by simp) _,by simp⟩
 ·rw [Below.heap_alloc _ _ _ (by simp)];exact heap_alloc_new w _
 ·simpa using heap_alloc_new (w.alloc x) y
theorem jc {P:Program} {dst:Option Tmp} {T ty:TypeId} {x:Operand} {pos:String} {after:Array Edge} {gd:Option (Nat × Bool)} {a:Act} {w:World} {p v:Value}
 (law:(Instr.loadAt T p).run P w=.ok v w) (hx:a.eval x=p):(execOp a.eval ⟨dst,.load T x,ty,pos,after,gd⟩).run P w=.ok (.value v) w:=by
 unfold execOp;simp only [hx,Sem.run_bind,law,Result.andThen_ok,Sem.run_pure]
theorem ma {P:Program} {ops:Array Oper} {i:Nat} {dst:Option Tmp} {T ty:TypeId} {x y:Operand} {pos:String} {after:Array Edge} {a:Act} {w w':World} {Q:Exit→Act→World→Prop} {K:Act→World→Prop} {p v:Value}
 (law:(Instr.storeAt T p v).run P w=.ok () w') (ho:ops[i]? = some ⟨dst,.store T x y,ty,pos,after,.none⟩) (hd:dst=.none) (hx:a.eval x=p) (hy:a.eval y=v) (h:K a w'):wpOp P ops Q i K a w:=by
 unfold wpOp
 rw [ho]
 subst hd
 simp only [Region.wanted,if_true]
 refine .inl ?_
 unfold Oper.wp execOp
 simp only [hx,hy,Sem.run_bind,law,Result.andThen_ok,Sem.run_pure]
 exact h
theorem one (w:World) (x:Obj):∃ X,X=w.alloc x∧X.heap[w.heap.size]? = some x∧Below w.heap.size w X∧X.heap.size=w.heap.size+1 :=
 ⟨_,rfl,heap_alloc_new w x,(Below.refl _ _).alloc (Nat.le_refl _) _,by simp⟩
theorem wpOp_step {P:Program} {ops:Array Oper} {i:Nat} {o:Oper} {a:Act} {w:World} {Q:Exit→Act→World→Prop} {K:Act→World→Prop} (ho:ops[i]? = some o) (hg:o.guard=.none) (h:o.wp P a w K Q):wpOp P ops Q i K a w:=by
 unfold wpOp
 rw [ho]
 simp only [Region.wanted,hg,if_true]
 exact .inl h
theorem At.store1 {W:World} {b:Nat} {T0:TypeId} {cs:List Value} (h:At W b cs T0) {T:TypeId} {i:Nat} {v:Value} (hT:(Tryz.prog.info? T).map (·.size)=some 1) (hi:i<cs.length) (hv:v.cells=#[v]) (hv1:v.oneCell'=true) :
 (Instr.storeAt T (.pointer (some ⟨b,i,.none⟩)) v).run Tryz.prog W=.ok () (W.setCell ⟨b,i,.none⟩ v):=by
 have hth:=h.there i 1 (by omega) 0 (by decide)
 have hc:(W.cell? ⟨b,i,.none⟩).isSome=true:=hth.1
 have hf:W.frozen? ⟨b,i,.none⟩=false:=hth.2
 cases hq:Tryz.prog.info? T with
 | none=>rw [hq] at hT;cases hT
 | some inf =>
   have hs:inf.size=1:=by rw [hq] at hT;simpa using hT
   have e1:∀ j,j<[v].length→(W.cell? ⟨b,i+0+j,.none⟩).isSome=true:=by
    intro j hj
    have:j=0:=by simpa using hj
    subst this
    exact hc
   have e2:∀ j,j<[v].length→W.frozen? ⟨b,i+0+j,.none⟩=false:=by
    intro j hj
    have:j=0:=by simpa using hj
    subst this
    exact hf
   have e3:∀ u ∈ [v],u.oneCell'=true:=by
    intro u hu
    have:u=v:=by simpa using hu
    subst this
    exact hv1
   have:=run_storeCells_cells (P:=Tryz.prog) b i [v] 0 W e1 e2 e3
   simp only [Nat.add_zero] at this
   simp only [Instr.storeAt,Instr.sureAddr,Sem.run_bind,Sem.run_pure,Result.andThen_ok]
   simp [storeVar,sizeOf,typeInfo,hq,hs,hv,this,World.setCells]
theorem ak {P:Program} {ops:Array Oper} {rest:List Oper} {dst:Option Tmp} {T ty:TypeId} {x:Operand} {pos:String} {after:Array Edge} {gd:Option (Nat × Bool)} {a:Act} {w:World} {Q:Exit→Act→World→Prop} {p v:Value}
 (law:(Instr.loadAt T p).run P w=.ok v w) (hw:Region.wanted ⟨dst,.load T x,ty,pos,after,gd⟩ (yielded ops a.tmps)=true) (hx:a.eval x=p) (h:wpList P ops Q rest (a.put dst v) w):wpList P ops Q (⟨dst,.load T x,ty,pos,after,gd⟩ :: rest) a w :=
 BigFrame.wpList_want hw fun K hK=>by unfold Oper.wp execOp;simp only [hx,Sem.run_bind,law,Result.andThen_ok,Sem.run_pure];exact hK _ _ h
theorem cu {P:Program} {ops:Array Oper} {rest:List Oper} {dst:Option Tmp} {T ty:TypeId} {x y:Operand} {pos:String} {after:Array Edge} {a:Act} {w w':World} {Q:Exit→Act→World→Prop} {p v:Value}
 (law:(Instr.storeAt T p v).run P w=.ok () w') (hx:a.eval x=p) (hy:a.eval y=v) (h:wpList P ops Q rest (a.put dst undef) w'):wpList P ops Q (⟨dst,.store T x y,ty,pos,after,.none⟩ :: rest) a w :=
 wpList_plain rfl fun K hK=>by unfold Oper.wp execOp;simp only [hx,hy,Sem.run_bind,law,Result.andThen_ok,Sem.run_pure];exact hK _ _ h
theorem abd {P:Program} {ops:Array Oper} {rest:List Oper} {dst:Option Tmp} {T ty:TypeId} {ps:Array (Nat × Operand)} {pos:String} {after:Array Edge} {a:Act} {w:World} {Q:Exit→Act→World→Prop} {qs:Array (Nat × Value)} {v:Value}
 (law:(Instr.build T qs).run P w=.ok v w) (hx:(ps.map fun p=>(p.1,a.eval p.2))=qs) (h:wpList P ops Q rest (a.put dst v) w):wpList P ops Q (⟨dst,.build T ps,ty,pos,after,.none⟩ :: rest) a w :=
 wpList_plain rfl fun K hK=>by unfold Oper.wp execOp;simp only [hx,Sem.run_bind,law,Result.andThen_ok,Sem.run_pure];exact hK _ _ h
theorem zg {P:Program} {fn:Func} {r:Tmp} {T:TypeId} {tmps:Array Value} {w:World} {b:Nat} {v:Value} (h:fn.results=#[.cell r T]) (hr:tmps.getD r undef=.pointer (some ⟨b,0,.none⟩))
 (law:(Instr.loadAt T (.pointer (some ⟨b,0,.none⟩))).run P w=.ok v w):(results fn tmps).run P w=.ok v w:=by
 have law':(loadVar T ⟨b,0,.none⟩).run P w=.ok v w:=by simpa [Instr.loadAt,Instr.sureAddr,Sem.run_bind] using law
 simp only [Array.getD_eq_getD_getElem?] at hr
 simp [results,h,hr,asAddr,law']
structure ae (F F':Nat→Prop) (w w':World):Prop where
 os:w'.os=w.os
 tape:w'.tape=w.tape
 output:w'.output=w.output
 size:w.heap.size≤w'.heap.size
 block:∀ k,k<w.heap.size→¬F k→w'.heap[k]? = w.heap[k]?
 grown:∀ k,F' k→F k∨w.heap.size≤k
theorem ae.refl (F:Nat→Prop) (w:World):ae F F w w:=⟨rfl,rfl,rfl,Nat.le_refl _,fun _ _ _=>rfl,fun _ h=>.inl h⟩
theorem ae.of {F:Nat→Prop} {B:Nat} {w w':World} (h:Below B w w') (hB:w.heap.size≤B):ae F F w w':=⟨h.os,h.tape,h.output,h.size,fun k hk _=>h.block k (by omega),fun _ h=>.inl h⟩
theorem ae.trans {F F' F'':Nat→Prop} {u v w:World} (h:ae F F' u v) (k:ae F' F'' v w):ae F F'' u w :=
 ⟨k.os.trans h.os,k.tape.trans h.tape,k.output.trans h.output,Nat.le_trans h.size k.size,fun i hi hn=>(k.block i (Nat.lt_of_lt_of_le hi h.size) (fun hf=>(h.grown i hf).elim hn (fun h1=>by omega))).trans (h.block i hi hn),
  fun i hi=>(k.grown i hi).elim (fun h1=>h.grown i h1) (fun h1=>.inr (Nat.le_trans h.size h1))⟩
theorem ae.set {F F':Nat→Prop} {u w:World} (h:ae F F' u w) {b:Nat} (hb:F b) (j:Nat) (v:Value):ae F F' u (w.setCell ⟨b,j,.none⟩ v) :=
 ⟨h.os,h.tape,h.output,by have:=h.size;simpa [World.setCell] using this,fun k hk hn=>by rw [Below.heap_setCell _ _ _ _ (fun e=>hn (by rw [e];exact hb))];exact h.block k hk hn,h.grown⟩
theorem ae.sets {F F':Nat→Prop} {u:World} {b:Nat} (hb:F b):∀ (vs:List Value) (o:Nat) (w:World),ae F F' u w→ae F F' u (w.setCells b o vs)
 | [],_,_,h=>h
 | v :: r,o,_,h=>ae.sets hb r (o+1) _ (h.set hb o v)
theorem ae.mono {F F' G G':Nat→Prop} {w w':World} (h:ae F F' w w') (h1:∀ k,F k→G k) (h2:∀ k,G' k→G k∨F' k∨w.heap.size≤k):ae G G' w w' :=
 ⟨h.os,h.tape,h.output,h.size,fun k hk hn=>h.block k hk (fun hf=>hn (h1 k hf)),fun k hk=>(h2 k hk).elim .inl (fun h3=>h3.elim (fun h4=>(h.grown k h4).elim (fun h5=>.inl (h1 k h5)) .inr) .inr)⟩
theorem ae.at {F F':Nat→Prop} {w w':World} {b:Nat} {l:List Value} {T:TypeId} (h:ae F F' w w') (A:At w b l T) (hn:¬F b):At w' b l T:=by
 unfold At;rw [h.block b A.lt hn];exact A
theorem ae.not {F F':Nat→Prop} {w w':World} (h:ae F F' w w') {b:Nat} (hb:b<w.heap.size) (hn:¬F b):¬F' b:=fun hf=>(h.grown b hf).elim hn (fun h1=>by omega)
theorem ae.below {F F':Nat→Prop} {B:Nat} {w0 w w':World} (h:ae F F' w w') (hb:Below B w0 w) (hF:∀ k,F k→B≤k) (hB:B≤w.heap.size):Below B w0 w' :=
 ⟨h.os.trans hb.os,h.tape.trans hb.tape,h.output.trans hb.output,Nat.le_trans hb.size h.size,fun k hk=>(h.block k (by omega) (fun hf=>by have:=hF k hf;omega)).trans (hb.block k hk)⟩
theorem ae.above {F F':Nat→Prop} {B:Nat} {w w':World} (h:ae F F' w w') (hF:∀ k,F k→B≤k) (hB:B≤w.heap.size):∀ k,F' k→B≤k:=fun k hk=>(h.grown k hk).elim (fun h1=>hF k h1) (fun h1=>by omega)
theorem ae.cell {F F':Nat→Prop} {w w':World} (h:ae F F' w w') {a:Addr} {v:Value} (hc:w.cell? a=some v) (hn:¬F a.block):w'.cell? a=some v:=by
 have hl:a.block<w.heap.size:=by
  by_cases hb:a.block<w.heap.size
  ·exact hb
  ·have:w.heap[a.block]? = .none:=Array.getElem?_eq_none (by omega)
   simp [World.cell?,this] at hc
 rw [World.cell?_of_block (w:=w) (h.block a.block hl hn)];exact hc
def Is (b:Nat):Nat→Prop:=fun k=>k=b
theorem ae.one_set {u w:World} {b:Nat} (h:ae (Is b) (Is b) u w) (j:Nat) (v:Value):ae (Is b) (Is b) u (w.setCell ⟨b,j,.none⟩ v):=h.set rfl j v
abbrev Sec:=List UInt8
def bcs (s:Sec):List Value:=s.map fun b=>.int .u8 (b.toNat:Int)
def secs (l:List Sec):List Value:=l.flatMap bcs
structure Wr where
 bit:Nat
 data:Sec
def Wr.vs (x:Wr):List Value:=.int .i64 x.bit :: bcs x.data
def wrs (l:List Wr):List Value:=l.flatMap Wr.vs
theorem uo (s:Sec):(bcs s).length=s.length:=by simp [bcs]
theorem bcs_one (s:Sec):∀ v ∈ bcs s,v.oneCell'=true:=by
 intro v hv
 simp only [bcs,List.mem_map] at hv
 obtain ⟨b,_,rfl⟩:=hv
 rfl
theorem abj:∀ l:List Sec,(∀ x ∈ l,x.length=64)→(secs l).length=64*l.length
 | [],_=>rfl
 | x :: l,h=>by
   have:=abj l (fun y hy=>h y (List.mem_cons_of_mem _ hy))
   have hx:=h x List.mem_cons_self
   simp only [secs,List.flatMap_cons,List.length_append,uo,List.length_cons] at *
   omega
theorem secs_one (l:List Sec):∀ v ∈ secs l,v.oneCell'=true:=by
 intro v hv
 simp only [secs,List.mem_flatMap] at hv
 obtain ⟨x,_,hv⟩:=hv
 exact bcs_one x v hv
theorem Wr.vlen {x:Wr} (h:x.data.length=64):x.vs.length=65:=by simp [Wr.vs,uo,h]
theorem Wr.one (x:Wr):∀ v ∈ x.vs,v.oneCell'=true:=by
 intro v hv
 simp only [Wr.vs,List.mem_cons] at hv
 rcases hv with rfl|hv
 ·rfl
 ·exact bcs_one _ v hv
theorem wrs_len:∀ l:List Wr,(∀ x ∈ l,x.data.length=64)→(wrs l).length=l.length*65
 | [],_=>rfl
 | x :: l,h=>by
   have:=wrs_len l (fun y hy=>h y (List.mem_cons_of_mem _ hy))
   have hx:=Wr.vlen (h x List.mem_cons_self)
   simp only [wrs,List.flatMap_cons,List.length_append,List.length_cons] at *
   rw [hx,this];omega
structure DM where
 kept:List Sec
 now:List Sec
 since:List (List Wr)
 next:Nat
 armed:Bool
 left:Int
 down:Bool
structure DM.OK (D:DM) (n:Nat):Prop where
 k:D.kept.length=n
 m:D.now.length=n
 s:D.since.length=n
 n1:1≤n
 n40:n≤40
 kl:∀ x ∈ D.kept,x.length=64
 ml:∀ x ∈ D.now,x.length=64
 sl:∀ l ∈ D.since,(∀ x ∈ l,x.data.length=64∧x.bit<64)∧(l.map Wr.bit).Nodup
 nx:D.next<64
 lo:D.armed=true→0≤D.left
 hi:D.left≤9223372036854775807
theorem nodup_le:∀ (k:Nat) (l:List Nat),l.Nodup→(∀ x ∈ l,x<k)→l.length≤k
 | 0,l,_,h=>by
   cases l with
   | nil=>simp
   | cons x l=>have:=h x List.mem_cons_self;omega
 | k+1,l,hn,h=>by
   have h1:(l.erase k).length≤k:=nodup_le k (l.erase k) (hn.erase k) (fun x hx=>by
    have h2:=(hn.mem_erase_iff).1 hx
    have h3:=h x h2.2
    have:=h2.1
    omega)
   by_cases hk:k ∈ l
   ·have:=List.length_erase_of_mem hk
    omega
   ·rw [List.erase_of_not_mem hk] at h1;omega
theorem DM.OK.sz {D:DM} {n:Nat} (h:D.OK n):∀ l ∈ D.since,l.length≤64:=fun l hl=>by
 have:=nodup_le 64 (l.map Wr.bit) (h.sl l hl).2 (fun x hx=>by
  obtain ⟨y,hy,rfl⟩:=List.mem_map.1 hx
  exact ((h.sl l hl).1 y hy).2)
 simpa using this
structure DP where
 kb:Nat
 nb:Nat
 sb:Nat
 svs:List Value
def hdV (D:DM) (P:DP) (n:Nat):List Value:=[.slice (some ⟨P.kb,0,.none⟩) n n,.slice (some ⟨P.nb,0,.none⟩) n n,.slice (some ⟨P.sb,0,.none⟩) n n,.int .i64 D.next,.bool D.armed,.int .i64 D.left,.bool D.down]
def nk (w:World) (v:Value) (l:List Wr):Prop:=w.ownsRow 0 150 65 v l.length (wrs l)
theorem nk.kept {w w':World} {v:Value} {l:List Wr} (h:nk w v l) (hk:∀ k,v.ownBlock=some k→w'.heap[k]? = w.heap[k]?):nk w' v l:=by
 refine ⟨h.1,?_⟩
 rcases h.2 with h0|⟨g,cap,cur,e,h1,hg,h2⟩
 ·exact .inl h0
 ·exact .inr ⟨g,cap,cur,e,h1,by rw [hk g (by rw [e];rfl)];exact hg,h2⟩
theorem nk.lt {w:World} {v:Value} {l:List Wr} (h:nk w v l) {k:Nat} (hk:v.ownBlock=some k):k<w.heap.size:=by
 rcases h.2 with ⟨rfl,_⟩|⟨g,cap,cur,rfl,h1,hg,h2⟩
 ·cases hk
 ·simp [Value.ownBlock] at hk;subst hk;exact (Array.getElem?_eq_some_iff.1 hg).1
theorem nk.one {w:World} {v:Value} {l:List Wr} (h:nk w v l):v.cells=#[v]∧v.oneCell'=true:=by
 rcases h.2 with ⟨rfl,_⟩|⟨g,cap,cur,rfl,h1,hg,h2⟩
 ·exact ⟨rfl,rfl⟩
 ·exact ⟨rfl,rfl⟩
theorem nk.later {w w':World} {B:Nat} {v:Value} {l:List Wr} (h:nk w v l) (hb:Below B w w') (hB:w.heap.size≤B):nk w' v l :=
 h.kept fun k hk=>hb.block k (by have:=h.lt hk;omega)
def DF (P:DP) (b:Nat):Nat→Prop:=fun k=>k=b∨k=P.kb∨k=P.nb∨k=P.sb∨∃ v ∈ P.svs,v.ownBlock=some k
structure DAt (w:World) (b n:Nat) (D:DM) (P:DP):Prop where
 ok:D.OK n
 hd:At w b (hdV D P n) 145
 k:At w P.kb (secs D.kept) 148
 m:At w P.nb (secs D.now) 148
 s:At w P.sb P.svs 146
 len:P.svs.length=n
 own:∀ (i:Nat) (l:List Wr) (v:Value),D.since[i]? = some l→P.svs[i]? = some v→nk w v l
 ne1:P.kb≠b∧P.nb≠b∧P.sb≠b∧P.kb≠P.nb∧P.kb≠P.sb∧P.nb≠P.sb
 ne2:∀ v ∈ P.svs,∀ k,v.ownBlock=some k→k≠b∧k≠P.kb∧k≠P.nb∧k≠P.sb
 ne3:∀ (i j:Nat) (v u:Value) (k:Nat),P.svs[i]? = some v→P.svs[j]? = some u→v.ownBlock=some k→u.ownBlock=some k→i=j
theorem DAt.foot {w:World} {b n:Nat} {D:DM} {P:DP} (h:DAt w b n D P):∀ k,DF P b k→k<w.heap.size:=by
 rintro k (rfl|rfl|rfl|rfl|⟨v,hv,hk⟩)
 ·exact h.hd.lt
 ·exact h.k.lt
 ·exact h.m.lt
 ·exact h.s.lt
 ·obtain ⟨i,hi,rfl⟩:=List.mem_iff_getElem.1 hv
  have hs:i<D.since.length:=by rw [h.ok.s,←h.len];exact hi
  exact (h.own i D.since[i] P.svs[i] (List.getElem?_eq_getElem hs) (List.getElem?_eq_getElem hi)).lt hk
theorem DAt.kept {w w':World} {b n:Nat} {D:DM} {P:DP} (h:DAt w b n D P) (hk:∀ k,DF P b k→w'.heap[k]? = w.heap[k]?):DAt w' b n D P:=by
 have a:∀ {k:Nat} {l:List Value} {T:TypeId},At w k l T→DF P b k→At w' k l T:=fun A hf=>by unfold At;rw [hk _ hf];exact A
 exact ⟨h.ok,a h.hd (.inl rfl),a h.k (.inr (.inl rfl)),a h.m (.inr (.inr (.inl rfl))),a h.s (.inr (.inr (.inr (.inl rfl)))),h.len,
  fun i l v h1 h2=>(h.own i l v h1 h2).kept fun k e=>hk k (.inr (.inr (.inr (.inr ⟨v,List.mem_of_getElem? h2,e⟩)))),h.ne1,h.ne2,h.ne3⟩
theorem DAt.later {w w':World} {B b n:Nat} {D:DM} {P:DP} (h:DAt w b n D P) (hb:Below B w w') (hB:w.heap.size≤B):DAt w' b n D P :=
 h.kept fun k hk=>hb.block k (by have:=h.foot k hk;omega)
theorem DAt.moved {F F':Nat→Prop} {w w':World} {b n:Nat} {D:DM} {P:DP} (h:DAt w b n D P) (hm:ae F F' w w') (hd:∀ k,F k→¬DF P b k):DAt w' b n D P :=
 h.kept fun k hk=>hm.block k (h.foot k hk) (fun hf=>hd k hf hk)
theorem DAt.head {w w':World} {b n:Nat} {D D':DM} {P:DP} (h:DAt w b n D P) (hm:ae (Is b) (Is b) w w') (hd:At w' b (hdV D' P n) 145) (ok:D'.OK n) (hk:D'.kept=D.kept) (hn:D'.now=D.now) (hs:D'.since=D.since):DAt w' b n D' P:=by
 obtain ⟨n1,n2,n3,n4,n5,n6⟩:=h.ne1
 refine ⟨ok,hd,?_,?_,hm.at h.s n3,h.len,fun i l v h1 h2=>?_,h.ne1,h.ne2,h.ne3⟩
 ·rw [hk];exact hm.at h.k n1
 ·rw [hn];exact hm.at h.m n2
 ·rw [hs] at h1
  have ho:=h.own i l v h1 h2
  exact ho.kept fun k e=>hm.block k (ho.lt e) (h.ne2 v (List.mem_of_getElem? h2) k e).1
def ai (f:Int):Value:=if f=0 then .nilIface else .iface 96 (.int .i64 f)
def qj (D:DM):Bool:=(D.armed && D.left == 0) || D.down
def jo (D:DM):Int:=if qj D=true then 10 else 0
def az (D:DM):DM:=if (D.armed && D.left == 0)=true then { D with down:=true } else if D.down=true then D else if D.armed=true then { D with left:=D.left - 1 } else D
theorem stepD_ok {D:DM} {n:Nat} (h:D.OK n):(az D).OK n:=by
 unfold az
 split
 ·exact ⟨h.k,h.m,h.s,h.n1,h.n40,h.kl,h.ml,h.sl,h.nx,h.lo,h.hi⟩
 ·rename_i h1
  split
  ·exact h
  ·split
   ·rename_i h3
    have h4:=h.lo h3
    have h5:=h.hi
    have h6:D.left≠0:=fun e=>h1 (by rw [h3,e];rfl)
    exact ⟨h.k,h.m,h.s,h.n1,h.n40,h.kl,h.ml,h.sl,h.nx,fun _=>by show 0≤D.left - 1;omega,by show D.left - 1≤_;omega⟩
   ·exact h
theorem DAt.cells {w:World} {b n:Nat} {D:DM} {P:DP} (h:DAt w b n D P):w.cell? ⟨b,0,.none⟩=some (.slice (some ⟨P.kb,0,.none⟩) n n)∧w.cell? ⟨b,1,.none⟩=some (.slice (some ⟨P.nb,0,.none⟩) n n)∧w.cell? ⟨b,2,.none⟩=some (.slice (some ⟨P.sb,0,.none⟩) n n)∧w.cell? ⟨b,3,.none⟩=some (.int .i64 D.next)∧w.cell? ⟨b,4,.none⟩=some (.bool D.armed)∧w.cell? ⟨b,5,.none⟩=some (.int .i64 D.left)∧w.cell? ⟨b,6,.none⟩=some (.bool D.down) :=
 ⟨h.hd.cell 0,h.hd.cell 1,h.hd.cell 2,h.hd.cell 3,h.hd.cell 4,h.hd.cell 5,h.hd.cell 6⟩
theorem DAt.froz {w:World} {b n:Nat} {D:DM} {P:DP} (h:DAt w b n D P):w.frozen? ⟨b,3,.none⟩=false∧w.frozen? ⟨b,4,.none⟩=false∧w.frozen? ⟨b,5,.none⟩=false∧w.frozen? ⟨b,6,.none⟩=false :=
 ⟨(h.hd.there 3 1 (by simp [hdV]) 0 (by decide)).2,(h.hd.there 4 1 (by simp [hdV]) 0 (by decide)).2,(h.hd.there 5 1 (by simp [hdV]) 0 (by decide)).2,(h.hd.there 6 1 (by simp [hdV]) 0 (by decide)).2⟩
def hasD (n:Nat) (at':Int):Bool:=decide (0≤at') && decide (at'<n)
theorem has_any {w:World} {b n:Nat} {D:DM} {P:DP} (h:DAt w b n D P) (at':Int) :
 Calls Tryz.prog 136 #[.pointer (some ⟨b,0,.none⟩),.int .i64 at'] w fun e w'=>e=.returned (.bool (hasD n at'))∧w'=w:=by
 obtain ⟨c0,c1,c2,c3,c4,c5,c6⟩:=h.cells
 clear h c0 c2 c3 c4 c5 c6
 by_cases h0:0≤at'
 ·have h0':decide (0≤at')=true:=by simpa using h0
  have HF:Hid (hasD n at'=decide (at'<(n:Int))):=by show _=_;simp [hasD,h0]
  clear h0
  go_enter Tryz.func136,Tryz.ntmps136
  go_wp2
  go_ret
  exact ⟨fq HF.out.symm,rfl⟩
 ·have h0':decide (0≤at')=false:=by simpa using h0
  have HF:Hid (hasD n at'=false):=by show _=_;simp [hasD,h0]
  clear h0
  go_enter Tryz.func136,Tryz.ntmps136
  go_wp2
  go_ret
  exact ⟨fq HF.out.symm,rfl⟩
theorem sectors_any {w:World} {b n:Nat} {D:DM} {P:DP} (h:DAt w b n D P) :
 Calls Tryz.prog 95 #[.pointer (some ⟨b,0,.none⟩)] w fun e w'=>e=.returned (.int .i64 n)∧w'=w:=by
 obtain ⟨c0,c1,c2,c3,c4,c5,c6⟩:=h.cells
 clear h c0 c2 c3 c4 c5 c6
 go_enter Tryz.func95,Tryz.ntmps95
 go_wp2
 go_ret
 exact ⟨rfl,rfl⟩
theorem step_any {w:World} {b n:Nat} {D:DM} {P:DP} (h:DAt w b n D P) :
 Calls Tryz.prog 157 #[.pointer (some ⟨b,0,.none⟩)] w fun e w'=>e=.returned (ai (jo D))∧DAt w' b n (az D) P∧ae (Is b) (Is b) w w':=by
 obtain ⟨c0,c1,c2,c3,c4,c5,c6⟩:=h.cells
 obtain ⟨f3,f4,f5,f6⟩:=h.froz
 have HD:Hid (DAt w b n D P):=h
 have HO:Hid ((az D).OK n):=stepD_ok h.ok
 have hlo:=h.ok.lo
 have hhi:=h.ok.hi
 clear h c0 c1 c2 c3 f3 f4
 cases ha:D.armed
 ·rw [ha] at c4
  cases hd:D.down
  ·rw [hd] at c6
   have HS:Hid (az D=D):=by show _=_;simp [az,ha,hd]
   have HB:Hid (jo D=0):=by show _=_;simp [jo,qj,ha,hd]
   clear hlo hhi
   go_enter Tryz.func157,Tryz.ntmps157
   go_wp2
   go_ret
   exact ⟨by rw [HB.out];rfl,by rw [HS.out];exact HD.out,ae.refl _ _⟩
  ·rw [hd] at c6
   have HS:Hid (az D=D):=by show _=_;simp [az,ha,hd]
   have HB:Hid (jo D=10):=by show _=_;simp [jo,qj,ha,hd]
   clear hlo hhi
   go_enter Tryz.func157,Tryz.ntmps157
   go_wp2
   go_ret
   exact ⟨by rw [HB.out];rfl,by rw [HS.out];exact HD.out,ae.refl _ _⟩
 ·rw [ha] at c4
  have hlo':=hlo ha
  by_cases h0:D.left=0
  ·have h0':(D.left == 0)=true:=by simpa using h0
   have HS:Hid (az D={ D with down:=true }):=by show _=_;simp [az,ha,h0]
   have HB:Hid (jo D=10):=by show _=_;simp [jo,qj,ha,h0]
   have A':At (w.setCell ⟨b,6,.none⟩ (.bool true)) b (hdV (az D) P n) 145:=by
    have:=HD.out.hd.setCell_same 6 (.bool true)
    rw [HS.out];exact this
   have M':ae (Is b) (Is b) w (w.setCell ⟨b,6,.none⟩ (.bool true)):=(ae.refl _ _).one_set 6 _
   have HD':Hid (DAt (w.setCell ⟨b,6,.none⟩ (.bool true)) b n (az D) P):=HD.out.head M' A' HO.out (by rw [HS.out]) (by rw [HS.out]) (by rw [HS.out])
   rw [h0] at c5
   clear hlo hhi hlo' h0 h0' A'
   go_enter Tryz.func157,Tryz.ntmps157
   go_wp2
   go_ret
   exact ⟨by rw [HB.out];rfl,HD'.out,M'⟩
  ·have h0':(D.left == 0)=false:=by simpa using h0
   cases hd:D.down
   ·rw [hd] at c6
    have HS:Hid (az D={ D with left:=D.left - 1 }):=by show _=_;simp [az,ha,hd,h0']
    have HB:Hid (jo D=0):=by show _=_;simp [jo,qj,ha,hd,h0']
    have A':At (w.setCell ⟨b,5,.none⟩ (.int .i64 (D.left - 1))) b (hdV (az D) P n) 145:=by
     have:=HD.out.hd.setCell_same 5 (.int .i64 (D.left - 1))
     rw [HS.out];exact this
    have M':ae (Is b) (Is b) w (w.setCell ⟨b,5,.none⟩ (.int .i64 (D.left - 1))):=(ae.refl _ _).one_set 5 _
    have HD':Hid (DAt (w.setCell ⟨b,5,.none⟩ (.int .i64 (D.left - 1))) b n (az D) P):=HD.out.head M' A' HO.out (by rw [HS.out]) (by rw [HS.out]) (by rw [HS.out])
    have hl1:1≤D.left:=by omega
    clear hlo hlo' h0 A'
    go_enter Tryz.func157,Tryz.ntmps157
    go_wp2
    go_ret
    exact ⟨by rw [HB.out];rfl,HD'.out,M'⟩
   ·rw [hd] at c6
    have HS:Hid (az D=D):=by show _=_;simp [az,hd,h0']
    have HB:Hid (jo D=10):=by show _=_;simp [jo,qj,hd]
    clear hlo hhi hlo' h0
    go_enter Tryz.func157,Tryz.ntmps157
    go_wp2
    go_ret
    exact ⟨by rw [HB.out];rfl,by rw [HS.out];exact HD.out,ae.refl _ _⟩
theorem secs_at:∀ (l:List Sec) (k:Nat) (h:k<l.length) (j:Nat),(∀ x ∈ l,x.length=64)→j<64→(secs l)[k*64+j]? = (bcs l[k])[j]?
 | [],k,h,_,_,_=>by simp at h
 | x :: l,0,h,j,hl,hj=>by
   have hx:=hl x List.mem_cons_self
   simp only [secs,List.flatMap_cons,Nat.zero_mul,Nat.zero_add,List.getElem_cons_zero]
   rw [List.getElem?_append_left (by rw [uo,hx];exact hj)]
 | x :: l,k+1,h,j,hl,hj=>by
   have hx:=hl x List.mem_cons_self
   have ih:=secs_at l k (by simpa using h) j (fun y hy=>hl y (List.mem_cons_of_mem _ hy)) hj
   simp only [secs,List.flatMap_cons,List.getElem_cons_succ] at ih ⊢
   rw [List.getElem?_append_right (by rw [uo,hx];omega),uo,hx,show (k+1)*64+j - 64=k*64+j by omega]
   exact ih
def readF (D:DM) (n:Nat) (at':Int):Int:=if D.down=true then 10 else if hasD n at'=true then 0 else 1
def readS (D:DM) (n:Nat) (at':Int):ByteArray:=if readF D n at'=0 then ⟨(D.now.getD at'.toNat []).toArray⟩ else ⟨#[]⟩
theorem readF_ok {D:DM} {n:Nat} {at':Int} (h:readF D n at'=0):D.down=false∧∃ k:Nat,at'=k∧k<n:=by
 unfold readF at h
 split at h
 ·omega
 ·rename_i hd
  split at h
  ·rename_i hh
   simp [hasD] at hh
   exact ⟨by simpa using hd,at'.toNat,by omega,by omega⟩
  ·omega
theorem bytes_at {w:World} {b:Nat} {T:TypeId} {l:List Sec} (h:At w b (secs l) T) (hl:∀ x ∈ l,x.length=64) (k:Nat) (hk:k<l.length):Lib.Bytes w b (k*64) ⟨l[k].toArray⟩:=by
 intro j hj
 have hj':j<l[k].length:=hj
 have h64:=hl l[k] (List.getElem_mem hk)
 rw [h.cell,secs_at l k hk j hl (by omega)]
 simp [bcs,hj']
 rfl
theorem read_any {w:World} {b n:Nat} {D:DM} {P:DP} (h:DAt w b n D P) (at':Int) :
 Calls Tryz.prog 109 #[.pointer (some ⟨b,0,.none⟩),.int .i64 at'] w fun e w'=>e=.returned (.tuple #[.string (readS D n at'),ai (readF D n at')])∧w'=w:=by
 obtain ⟨c0,c1,c2,c3,c4,c5,c6⟩:=h.cells
 have HH:Hid (∀ x,Calls Tryz.prog 136 #[.pointer (some ⟨b,0,.none⟩),.int .i64 x] w fun e w'=>e=.returned (.bool (hasD n x))∧w'=w):=fun x=>has_any h x
 have HD:Hid (DAt w b n D P):=h
 clear h c0 c2 c3 c4 c5
 cases hd:D.down
 ·rw [hd] at c6
  cases hh:hasD n at'
  ·have HF:Hid (readF D n at'=1):=by show _=_;simp [readF,hd,hh]
   have HS:Hid (readS D n at'=⟨#[]⟩):=by show _=_;unfold readS;rw [HF.out];rfl
   go_enter Tryz.func109,Tryz.ntmps109
   go_wp2_with fail
   refine (HH.out at').mono ?_
   rintro e _ ⟨rfl,rfl⟩
   rw [hh]
   go_wp2
   go_ret2
   exact ⟨by rw [HF.out,HS.out];rfl,rfl⟩
  ·have HF:Hid (readF D n at'=0):=by show _=_;simp [readF,hd,hh]
   obtain ⟨_,k,rfl,hk⟩:=readF_ok HF.out
   have hkl:k<D.now.length:=by rw [HD.out.ok.m];exact hk
   have HS:Hid (readS D n k=⟨D.now[k].toArray⟩):=by show _=_;unfold readS;rw [HF.out];simp [hkl]
   have h64:=HD.out.ok.ml D.now[k] (List.getElem_mem hkl)
   have hcv:=Lib.run_convert_window (P:=Tryz.prog) w 192 5 9 Tryz.underlying192 Tryz.underlying5 Tryz.underlying9 P.nb (k*64) _ (bytes_at HD.out.m HD.out.ok.ml k hkl) 0 64 64 (by show 0+64≤(D.now[k].toArray).size;simp [h64])
   have hex:(⟨D.now[k].toArray⟩:ByteArray).extract 0 (0+64)=⟨D.now[k].toArray⟩:=ByteArray.ext (by simp;exact List.take_of_length_le (by omega))
   rw [hex,Nat.add_zero] at hcv
   have HHK':Hid (Calls Tryz.prog 136 #[.pointer (some ⟨b,0,.none⟩),.int .i64 k] w fun e w'=>e=.returned (.bool true)∧w'=w):=by have:=HH.out k;rw [hh] at this;exact this
   have hki:(k:Int)<(n:Int):=by omega
   clear hex h64 HH hh
   go_enter Tryz.func109,Tryz.ntmps109
   go_wp2_with fail
   refine HHK'.out.mono ?_
   rintro e _ ⟨rfl,rfl⟩
   go_wp2
   go_ret2
   exact ⟨by rw [HF.out,HS.out];rfl,rfl⟩
 ·rw [hd] at c6
  have HF:Hid (readF D n at'=10):=by show _=_;simp [readF,hd]
  have HS:Hid (readS D n at'=⟨#[]⟩):=by show _=_;unfold readS;rw [HF.out];rfl
  go_enter Tryz.func109,Tryz.ntmps109
  go_wp2
  go_ret2
  exact ⟨by rw [HF.out,HS.out];rfl,rfl⟩
theorem aa0:∀ (vs l:List Value) (o:Nat),o+vs.length≤l.length→il l o vs=l.take o ++ vs ++ l.drop (o+vs.length)
 | [],l,o,_=>by simp [il]
 | v :: r,l,o,h=>by
   have hl:o<l.length:=by simp at h;omega
   have ih:=aa0 r (l.set o v) (o+1) (by simp at h ⊢;omega)
   show il (l.set o v) (o+1) r=_
   rw [ih,List.take_succ_eq_append_getElem (by simpa using hl)]
   simp only [List.getElem_set_self,List.length_cons]
   rw [List.take_set_of_le (Nat.le_refl _),List.drop_set_of_lt (by omega),show o+1+r.length=o+(r.length+1) by omega]
   simp
theorem sz65:(Tryz.prog.info? 150).map (·.size)=some 65:=by kernel_rfl
theorem und65:∃ d,Tryz.prog.underlying 150=some d∧d.isRow=true:=⟨_,Tryz.underlying150,rfl⟩
theorem load_wr {X:World} {g o:Nat} {T:TypeId} {cs:List Value} {x:Wr} (h:At X g cs T) (hx:x.data.length=64) (hc:∀ q,q<65→cs[o+q]? = x.vs[q]?) :
 (Instr.loadAt 150 (.pointer (some ⟨g,o,.none⟩))).run Tryz.prog X=.ok (.agg x.vs.toArray) X:=by
 obtain ⟨d,hd,hr⟩:=und65
 exact run_loadAt_mid X g o _ x.vs d (h.range o x.vs (fun j hj=>hc j (by rw [Wr.vlen hx] at hj;exact hj))) hd hr (by rw [Wr.vlen hx];exact sz65)
theorem load_wr0 {X:World} {g:Nat} {T:TypeId} {x:Wr} (h:At X g x.vs T) (hx:x.data.length=64):(Instr.loadAt 150 (.pointer (some ⟨g,0,.none⟩))).run Tryz.prog X=.ok (.agg x.vs.toArray) X:=load_wr h hx (fun q _=>by rw [Nat.zero_add])
theorem store_wr {X:World} {g o:Nat} {T:TypeId} {cs:List Value} {x:Wr} (h:At X g cs T) (hx:x.data.length=64) (ho:o+65≤cs.length) :
 (Instr.storeAt 150 (.pointer (some ⟨g,o,.none⟩)) (.agg x.vs.toArray)).run Tryz.prog X=.ok () (X.setCells g o x.vs) :=
 run_storeAt_mid X g o _ x.vs.toArray (by simpa [Wr.vlen hx] using h.there o 65 ho) (by simpa [Wr.vlen hx] using sz65) (all_oneCell_toArray x.one)
def z65:List Value:=.int .i64 0 :: List.replicate 64 (.int .u8 0)
theorem zero65 (w:World):(zeroValue 150).run Tryz.prog w=.ok (.agg z65.toArray) w:=by kernel_rfl
theorem zc65:Tryz.zeroCells150=z65.toArray:=by kernel_rfl
theorem z65_len:z65.length=65:=rfl
def lm (bit:Nat) (l:List Wr):List Wr:=l.filter fun x=>!(x.bit == bit)
theorem keptW_le (bit:Nat) (l:List Wr):(lm bit l).length≤l.length:=List.length_filter_le _ _
theorem keptW_all {bit:Nat} {l:List Wr} (h:∀ j (h:j<l.length),(l[j].bit == bit)=false):lm bit l=l:=by
 refine List.filter_eq_self.2 fun r hr=>?_
 obtain ⟨j,hj,rfl⟩:=List.mem_iff_getElem.1 hr
 simp [h j hj]
theorem adq (bit:Nat) (l:List Wr) (j:Nat) (h:j<l.length):lm bit (l.take (j+1))=lm bit (l.take j) ++ (if (l[j].bit == bit)=true then [] else [l[j]]):=by
 rw [List.take_succ_eq_append_getElem h,lm,lm,List.filter_append]
 by_cases e:(l[j].bit == bit)=true
 ·simp [e]
 ·simp only [Bool.not_eq_true] at e;simp [e]
theorem wrs_at:∀ (l:List Wr) (k:Nat) (h:k<l.length) (q:Nat),(∀ x ∈ l,x.data.length=64)→q<65→(wrs l)[k*65+q]? = (l[k].vs)[q]?
 | [],k,h,_,_,_=>by simp at h
 | x :: l,0,h,q,hl,hq=>by
   have hx:=Wr.vlen (hl x List.mem_cons_self)
   simp only [wrs,List.flatMap_cons,Nat.zero_mul,Nat.zero_add,List.getElem_cons_zero]
   rw [List.getElem?_append_left (by rw [hx];exact hq)]
 | x :: l,k+1,h,q,hl,hq=>by
   have hx:=Wr.vlen (hl x List.mem_cons_self)
   have ih:=wrs_at l k (by simpa using h) q (fun y hy=>hl y (List.mem_cons_of_mem _ hy)) hq
   simp only [wrs,List.flatMap_cons,List.getElem_cons_succ] at ih ⊢
   rw [List.getElem?_append_right (by rw [hx];omega),hx,show (k+1)*65+q - 65=k*65+q by omega]
   exact ih
theorem acm (a b:List Wr):wrs (a ++ b)=wrs a ++ wrs b:=by simp [wrs]
def RowW (w:World) (a:Option Addr) (n:Nat) (l:List Wr):Prop :=
 l.length=n∧n≤9223372036854775807∧(∀ x ∈ l,x.data.length=64)∧(n≠0→∃ g cur T,a=some ⟨g,0,.none⟩∧At w g cur T∧∀ j (h:j<l.length) q,q<65→cur[j*65+q]? = (l[j].vs)[q]?)
abbrev covV (bw:Nat):Value:=.func (.func 187) #[] #[.pointer (some ⟨bw,0,.none⟩)]
theorem cov_any (x:Wr) (bw bit:Nat) (w:World) (hc:w.cell? ⟨bw,0,.none⟩=some (.int .i64 bit)) :
 Calls Tryz.prog 187 #[.agg x.vs.toArray,.pointer (some ⟨bw,0,.none⟩)] w fun e w'=>e=.returned (.bool (x.bit == bit))∧Below w.heap.size w w':=by
 obtain ⟨X,hX,a0,bX,sX⟩:=one w (.cells x.vs.toArray 150)
 have A0:At X w.heap.size x.vs 150:=a0
 have c0:X.cell? ⟨w.heap.size,0,.none⟩=some (.int .i64 x.bit):=A0.cell 0
 have c1:=cell_later bX hc
 clear a0 A0
 go_enter Tryz.func187,Tryz.ntmps187
 go_upto_region 1 with fail
 rw [←hX]
 clear hX
 go_wp2
 go_ret
 exact ⟨fq (by rw [Bool.eq_iff_iff];simp;omega),bX⟩
theorem indexW_any (a:Option Addr) (n c:Nat) (l:List Wr) (bw bit:Nat) (w:World) (hr:RowW w a n l) (hcov:w.cell? ⟨bw,0,.none⟩=some (.int .i64 bit)) :
 Calls Tryz.prog 207 #[.slice a n c,covV bw] w fun e w' =>
  (∃ i:Int,e=.returned (.int .i64 i)∧((i=-1∧∀ j (h:j<l.length),(l[j].bit == bit)=false)∨∃ k:Nat,i=k∧∃ h:k<l.length,(l[k].bit == bit)=true∧∀ j (h:j<k),(l[j].bit == bit)=false))∧Below w.heap.size w w':=by
 obtain ⟨hl,hn,hdl,hrow⟩:=hr
 go_enter Tryz.func207,Tryz.ntmps207
 go_wp2
 go_loopw [8] (fun i wr=>∃ k:Nat,k≤n∧i=.int .i64 k∧Below w.heap.size w wr∧Hid (∀ j (h:j<l.length),j<k→(l[j].bit == bit)=false)) (fun i _=>n - (intOf i).toNat)
 case atStart=>exact ⟨0,Nat.zero_le _,rfl,Below.refl _ _,fun j _ h=>absurd h (Nat.not_lt_zero _)⟩
 case round =>
  obtain ⟨k,hk,rfl,hb,hall⟩:=hrel
  by_cases hlt:k<n
  ·have hkl:k<l.length:=by omega
   obtain ⟨g,cur,T,rfl,A,hcs⟩:=hrow (by omega)
   have A':=A.later hb A.lt
   have HL:Hid ((Instr.loadAt 150 (.pointer (some ⟨g,k*65,.none⟩))).run Tryz.prog wr=.ok (.agg l[k].vs.toArray) wr):=load_wr A' (hdl l[k] (List.getElem_mem hkl)) (hcs k hkl)
   have HC:Hid (Calls Tryz.prog 187 #[.agg l[k].vs.toArray,.pointer (some ⟨bw,0,.none⟩)] wr fun e w'=>e=.returned (.bool (l[k].bit == bit))∧Below wr.heap.size wr w'):=cov_any l[k] bw bit wr (cell_later hb hcov)
   clear hcs hrow A A'
   cases hq:(l[k].bit == bit)
   ·rw [hq] at HC
    go_wp2_with (first|(with_reducible refine ak HL.out rfl rfl ?_)|(go_at_call 187;refine HC.out.mono ?_;rintro e w' ⟨rfl,hb'⟩))
    go_roundw
    case rel=>exact ⟨k+1,by omega,by go_num,hb.trans (hb'.mono hb.size),fun j hj hjk=>by
     rcases Nat.lt_or_ge j k with h|h
     ·exact hall.out j hj h
     ·have:j=k:=by omega
      subst this
      exact hq⟩
    case measure=>simp [intOf];omega
   ·rw [hq] at HC
    go_wp2_with (first|(with_reducible refine ak HL.out rfl rfl ?_)|(go_at_call 187;refine HC.out.mono ?_;rintro e w' ⟨rfl,hb'⟩))
    go_ret
    exact ⟨⟨(k:Int),rfl,.inr ⟨k,rfl,by omega,hq,fun j hj=>hall.out j (by omega) hj⟩⟩,hb.trans (hb'.mono hb.size)⟩
  ·go_wp2
   go_ret
   exact ⟨⟨-1,rfl,.inl ⟨rfl,fun j hj=>hall.out j hj (by omega)⟩⟩,hb⟩
def MidW (bit:Nat) (w:World) (g cap:Nat) (l:List Wr) (i j:Nat):Prop :=
 i=(lm bit (l.take j)).length∧i<j∧j≤l.length∧l.length≤cap∧∃ cur:List Value,At w g cur 150∧cur.length=cap*65∧cur.take (i*65)=wrs (lm bit (l.take j))∧(cur.drop (j*65)).take ((l.length - j)*65)=wrs (l.drop j)
theorem MidW.later {bit:Nat} {w w':World} {g cap i j B:Nat} {l:List Wr} (h:MidW bit w g cap l i j) (hb:Below B w w') (hg:g<B):MidW bit w' g cap l i j:=by
 obtain ⟨h1,h2,h3,h4,cur,h5,h6⟩:=h
 exact ⟨h1,h2,h3,h4,cur,h5.later hb hg,h6⟩
theorem MidW.lt {bit:Nat} {w:World} {g cap i j:Nat} {l:List Wr} (h:MidW bit w g cap l i j):g<w.heap.size:=by
 obtain ⟨_,_,_,_,cur,h5,_⟩:=h
 exact h5.lt
theorem take_wrs (l:List Wr) (hl:∀ x ∈ l,x.data.length=64) (k:Nat) (hk:k≤l.length):(wrs l).take (k*65)=wrs (l.take k):=by
 have e:l=l.take k ++ l.drop k:=(List.take_append_drop k l).symm
 have h1:(wrs (l.take k)).length=k*65:=by rw [wrs_len _ (fun x hx=>hl x (List.mem_of_mem_take hx))];simp;omega
 conv=>lhs;rw [e,acm]
 rw [List.take_append_of_le_length (by omega),List.take_of_length_le (by omega)]
theorem drop_wrs (l:List Wr) (hl:∀ x ∈ l,x.data.length=64) (k:Nat) (hk:k≤l.length):(wrs l).drop (k*65)=wrs (l.drop k):=by
 have e:l=l.take k ++ l.drop k:=(List.take_append_drop k l).symm
 have h1:(wrs (l.take k)).length=k*65:=by rw [wrs_len _ (fun x hx=>hl x (List.mem_of_mem_take hx))];simp;omega
 conv=>lhs;rw [e,acm]
 rw [List.drop_append_of_le_length (by omega),List.drop_of_length_le (by omega),List.nil_append]
theorem MidW.start {bit:Nat} {w:World} {g cap:Nat} {l:List Wr} (hl:∀ x ∈ l,x.data.length=64) {cur:List Value} (A:At w g cur 150) (hcap:l.length≤cap) (hs:cur.length=cap*65) (ht:cur.take (l.length*65)=wrs l) {k:Nat} (hk:k<l.length) (he:(l[k].bit == bit)=true) (ha:∀ j (h:j<k),(l[j].bit == bit)=false):MidW bit w g cap l k (k+1):=by
 have e1:lm bit (l.take (k+1))=l.take k:=by
  rw [adq bit l k hk,if_pos he,List.append_nil]
  exact keptW_all fun j hj=>by simp at hj ⊢;simpa using ha j (by omega)
 refine ⟨by rw [e1];simp;omega,by omega,by omega,hcap,cur,A,hs,?_,?_⟩
 ·rw [e1,←take_wrs l hl k (by omega),←ht,List.take_take,Nat.min_eq_left (Nat.mul_le_mul_right _ (by omega))]
 ·rw [←drop_wrs l hl (k+1) (by omega),←ht,List.drop_take]
  congr 1
  rw [Nat.sub_mul]
theorem MidW.cells {bit:Nat} {w:World} {g cap i j:Nat} {l:List Wr} (hl:∀ x ∈ l,x.data.length=64) (h:MidW bit w g cap l i j) (hj:j<l.length):∃ cur,At w g cur 150∧cur.length=cap*65∧∀ q,q<65→cur[j*65+q]? = (l[j].vs)[q]? := by
 obtain ⟨h1,h2,h3,h4,cur,A,hs,ht,hd⟩:=h
 refine ⟨cur,A,hs,fun q hq=>?_⟩
 have h0:=congrArg (fun x:List Value=>x[q]?) hd
 have hlt:q<(l.length - j)*65:=by have:1*65≤(l.length - j)*65:=Nat.mul_le_mul_right _ (by omega);omega
 rw [List.getElem?_take_of_lt hlt,List.getElem?_drop] at h0
 rw [h0]
 have:=wrs_at (l.drop j) 0 (by simp;omega) q (fun x hx=>hl x (List.mem_of_mem_drop hx)) hq
 rw [Nat.zero_mul,Nat.zero_add] at this
 rw [this];simp
theorem dropW_step {cur:List Value} {l:List Wr} {j:Nat} (hl:∀ x ∈ l,x.data.length=64) (hj:j<l.length) (hd:(cur.drop (j*65)).take ((l.length - j)*65)=wrs (l.drop j)):(cur.drop ((j+1)*65)).take ((l.length - (j+1))*65)=wrs (l.drop (j+1)):=by
 have:=congrArg (List.drop 65) hd
 have e:=drop_wrs (l.drop j) (fun x hx=>hl x (List.mem_of_mem_drop hx)) 1 (by simp;omega)
 rw [Nat.one_mul,List.drop_drop,show j+1=j+1 from rfl] at e
 rw [e] at this
 rw [←this,List.drop_take,List.drop_drop,show j*65+65=(j+1)*65 by omega]
 congr 1
 rw [Nat.sub_mul,Nat.sub_mul];omega
theorem MidW.skip {bit:Nat} {w:World} {g cap i j:Nat} {l:List Wr} (hl:∀ x ∈ l,x.data.length=64) (h:MidW bit w g cap l i j) (hj:j<l.length) (he:(l[j].bit == bit)=true):MidW bit w g cap l i (j+1):=by
 obtain ⟨h1,h2,h3,h4,cur,hg,hs,ht,hd⟩:=h
 have e:lm bit (l.take (j+1))=lm bit (l.take j):=by rw [adq bit l j hj,if_pos he,List.append_nil]
 exact ⟨by rw [e];exact h1,by omega,by omega,h4,cur,hg,hs,by rw [e];exact ht,dropW_step hl hj hd⟩
theorem MidW.keep {bit:Nat} {w:World} {g cap i j:Nat} {l:List Wr} (hl:∀ x ∈ l,x.data.length=64) (h:MidW bit w g cap l i j) (hj:j<l.length) (he:(l[j].bit == bit)=false) :
 MidW bit (w.setCells g (i*65) l[j].vs) g cap l (i+1) (j+1):=by
 obtain ⟨h1,h2,h3,h4,cur,hg,hs,ht,hd⟩:=h
 have hx:=Wr.vlen (hl l[j] (List.getElem_mem hj))
 have hij:(i+1)*65≤j*65:=Nat.mul_le_mul_right _ (by omega)
 have hjc:(j+1)*65≤cap*65:=Nat.mul_le_mul_right _ (by omega)
 have e:lm bit (l.take (j+1))=lm bit (l.take j) ++ [l[j]]:=by rw [adq bit l j hj,if_neg (by rw [he];decide)]
 have hm:=aa0 l[j].vs cur (i*65) (by rw [hx,hs];omega)
 have hti:(cur.take (i*65)).length=i*65:=by simp;omega
 refine ⟨by rw [e];simp [←h1],by omega,by omega,h4,il cur (i*65) l[j].vs,At.set _ _ _ _ hg,?_,?_,?_⟩
 ·rw [hm];simp [hx];omega
 ·rw [hm,e,acm,←ht,List.append_assoc,List.take_append,hti,List.take_of_length_le (by rw [hti];omega)]
  congr 1
  rw [show (i+1)*65 - i*65=65 by omega,List.take_append_of_le_length (by omega),List.take_of_length_le (by omega)]
  simp [wrs]
 ·rw [hm,List.append_assoc,List.drop_append,hti,List.drop_of_length_le (by rw [hti];omega),List.nil_append,List.drop_append,hx,List.drop_of_length_le (by rw [hx];omega),List.nil_append,List.drop_drop]
  rw [show i*65+65+((j+1)*65 - i*65 - 65)=(j+1)*65 by omega]
  exact dropW_step hl hj hd
end Go.Proofs.YtpkhdihoijkamaaGreatDoor.D
