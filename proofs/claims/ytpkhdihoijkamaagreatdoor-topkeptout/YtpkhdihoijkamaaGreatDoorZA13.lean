/- Several texts of this seat in one: UBase, GBase, GBlk, GAdmit, GEq, GMath, GGrp, Nums, GMem. No statement of the seat is proved here. -/
import Derived.Test.YtpkhdihoijkamaaGreatDoorZA12
import Derived.Test.YtpkhdihoijkamaaGreatDoorRows
import Derived.Test.YtpkhdihoijkamaaGreatDoorZA08
import Derived.WalkKit
import Derived.WalkSpells
import Derived.WalkLawsBesides
import Derived.ProofKit
import Derived.OpenShut
import Derived.ChangeOld
import Derived.Deep.Fields
import Derived.Deep.QuietTactic
import Derived.BigQuiet
import Derived.Deep.MidRow
import Derived.Deep.Quiet
import Derived.ChangeKeysEq
import Derived.Lib.SliceRun
import Derived.Lib.Walk
set_option maxHeartbeats 4000000
namespace Go.Proofs.YtpkhdihoijkamaaGreatDoor.U
open Go.ChangeShapes Go.WideShapes Go.ChangeAt Go.RowKit Go.Deep
open Go.Proofs.YtpkhdihoijkamaaGreatDoor.D
def tgV (k:Nat) (gs bs:List Value) (fly wts dn:Value) (nm:Int):List Value:=.pointer (some ⟨k,0,.none⟩) :: (gs ++ (bs ++ [fly,wts,dn,.int .i64 nm]))
theorem epochT_any {w:World} {t k b:Nat} {gs bs:List Value} {fly wts dn:Value} {nm e:Int} {s:KS} {a:Option Addr} {c:Nat} (A:At w t (tgV k gs bs fly wts dn nm) 107) (h:KpAt w k b e s a c) :
 Calls Tryz.prog 19 #[.pointer (some ⟨t,0,.none⟩)] w fun r w'=>r=.returned (.int .i64 e)∧w'=w:=by
 have c0:w.cell? ⟨t,0,.none⟩=some (.pointer (some ⟨k,0,.none⟩)):=A.cell 0
 have HK:Hid (KpAt w k b e s a c):=h
 clear A h
 go_enter Tryz.func19,Tryz.ntmps19
 go_wp2_with fail
 refine (epoch_any HK.out).mono ?_
 rintro r w' ⟨rfl,rfl⟩
 go_wp2
 go_ret
 exact ⟨rfl,rfl⟩
set_option maxRecDepth 100000 in
theorem stateT_any {w:World} {t k b:Nat} {gs bs:List Value} {fly wts dn:Value} {nm e:Int} {s:KS} {a:Option Addr} {c:Nat} (A:At w t (tgV k gs bs fly wts dn nm) 107) (h:KpAt w k b e s a c) :
 Calls Tryz.prog 18 #[.pointer (some ⟨t,0,.none⟩)] w fun r w'=>∃ a' c',r=.returned (.agg (s.vs a' c').toArray)∧Go.Proofs.YtpkhdihoijkamaaGreatDoor.Row w' a' s.l.length s.l∧(∀ p,a'=some p→w.heap.size≤p.block∧p.block<w'.heap.size)∧Below w.heap.size w w':=by
 obtain ⟨X,hX,a1,bX,sX⟩:=D.one w (.cells #[.int .i64 0,.slice .none 0 0,.int .i64 0,.int .i64 0,.bool false] 36)
 have A1:At X w.heap.size zst 36:=a1
 have HK:Hid (KpAt X k b e s a c):=h.later bX
 have HB:Hid (Below w.heap.size w X):=bX
 have c0:X.cell? ⟨t,0,.none⟩=some (.pointer (some ⟨k,0,.none⟩)):=(A.later bX A.lt).cell 0
 clear a1 bX h A
 go_enter Tryz.func18,Tryz.ntmps18
 go_upto_region 1 with fail
 rw [←hX]
 clear hX
 go_wp2_with fail
 refine (state_any HK.out).mono ?_
 rintro r W1 ⟨a',c',rfl,hr,hq,b1⟩
 have h1:=A1.lt
 replace A1:=A1.later b1 A1.lt
 replace HB:Hid (Below w.heap.size w W1):=HB.out.trans (b1.mono HB.out.size)
 have hs1:=b1.size
 clear b1 HK c0
 obtain ⟨V3,hst,A3,hm3⟩:=putS s a' c' A1 rfl
 have HST:Hid ((Instr.storeAt 36 (.pointer (some ⟨w.heap.size,0,.none⟩)) (.agg (s.vs a' c').toArray)).run Tryz.prog W1=.ok () V3):=hst
 have HB3:Hid (Below w.heap.size w V3):=hm3.below HB.out (fun q hq=>by rw [show q=w.heap.size from hq];exact Nat.le_refl _) HB.out.size
 have HR3:Hid (Go.Proofs.YtpkhdihoijkamaaGreatDoor.Row V3 a' s.l.length s.l):=xc hr hm3 (fun p hp _ e=>by have:=(hq p hp).1;have:p.block=w.heap.size:=e;omega)
 have HRS:Hid ((Instr.loadAt 36 (.pointer (some ⟨w.heap.size,0,.none⟩))).run Tryz.prog V3=.ok (.agg (s.vs a' c').toArray) V3):=jk A3
 have hs3:=hm3.size
 clear hm3 A3 A1 HB hst hr
 go_wp2_with (with_reducible refine cu HST.out rfl rfl ?_)
 refine bodyPost_ret (zg Tryz.results18 rfl HRS.out) rfl ⟨a',c',rfl,HR3.out,fun p hp=>?_,HB3.out⟩
 have:=hq p hp
 omega
theorem inGroup_any (i:Int) (w:World):Calls Tryz.prog 74 #[.int .i64 i] w fun r w'=>r=.returned (.bool (decide (0≤i) && decide (i<3)))∧w'=w:=by
 by_cases h:0≤i
 ·have HR:Hid ((decide (0≤i) && decide (i<3))=decide (i<3)):=by show _=_;simp [h]
  rw [HR.out]
  go_enter Tryz.func74,Tryz.ntmps74
  go_wp2
  go_ret
  exact ⟨rfl,rfl⟩
 ·have HR:Hid ((decide (0≤i) && decide (i<3))=false):=by show _=_;simp [h]
  rw [HR.out]
  go_enter Tryz.func74,Tryz.ntmps74
  go_wp2
  go_ret
  exact ⟨rfl,rfl⟩
structure xn (gs bs:List Value):Prop where
 g:gs.length=78
 b:bs.length=4
theorem tgV_at {gs bs:List Value} (h:xn gs bs) (k:Nat) (fly wts dn:Value) (nm:Int) :
 (tgV k gs bs fly wts dn nm)[83]? = some fly∧(tgV k gs bs fly wts dn nm)[84]? = some wts∧(tgV k gs bs fly wts dn nm)[85]? = some dn∧(tgV k gs bs fly wts dn nm)[86]? = some (.int .i64 nm):=by
 have hg:=h.g
 have hb:=h.b
 unfold tgV
 refine ⟨?_,?_,?_,?_⟩ <;> (rw [List.getElem?_cons_succ,List.getElem?_append_right (by omega),List.getElem?_append_right (by omega),hg,hb];rfl)
theorem tgV_g {gs bs:List Value} (h:xn gs bs) (k:Nat) (fly wts dn:Value) (nm:Int) {j:Nat} (hj:j<78):(tgV k gs bs fly wts dn nm)[1+j]? = gs[j]? := by
 have hg:=h.g
 unfold tgV
 rw [Nat.add_comm,List.getElem?_cons_succ,List.getElem?_append_left (by omega)]
theorem flies_any {w:World} {t k:Nat} {gs bs:List Value} {wts dn:Value} {nm:Int} {fa:Option Addr} {n c:Nat} (A:At w t (tgV k gs bs (.slice fa n c) wts dn nm) 107) (h:xn gs bs) (i:Int) :
 Calls Tryz.prog 56 #[.pointer (some ⟨t,0,.none⟩),.int .i64 i] w fun r w'=>r=.returned (.bool (decide (0≤i) && decide (i<n)))∧w'=w:=by
 have c83:w.cell? ⟨t,83,.none⟩=some (.slice fa n c):=(A.cell 83).trans (tgV_at h k _ _ _ _).1
 clear A
 by_cases h0:0≤i
 ·have HR:Hid ((decide (0≤i) && decide (i<(n:Int)))=decide (i<(n:Int))):=by show _=_;simp [h0]
  rw [HR.out]
  go_enter Tryz.func56,Tryz.ntmps56
  go_wp2
  go_ret
  exact ⟨rfl,rfl⟩
 ·have HR:Hid ((decide (0≤i) && decide (i<(n:Int)))=false):=by show _=_;simp [h0]
  rw [HR.out]
  go_enter Tryz.func56,Tryz.ntmps56
  go_wp2
  go_ret
  exact ⟨rfl,rfl⟩
end Go.Proofs.YtpkhdihoijkamaaGreatDoor.U
namespace Go.Proofs.YtpkhdihoijkamaaGreatDoor.G
set_option maxRecDepth 100000
open Go.ChangeShapes Go.WideShapes Go.ChangeAt Go.RowKit
theorem fq {a b:Bool} (h:a=b):Ending.returned (.bool a)=.returned (.bool b):=by rw [h]
structure Cel where
 e:Int
 n:Int
 d:ByteArray
def Cel.vs (c:Cel):List Value:=[.int .i64 c.e,.int .i64 c.n,.string c.d]
def di (a b:Cel):Bool:=if a.e != b.e then decide (b.e<a.e) else decide (b.n<a.n)
theorem abv (e1 n1 e2 n2:Int) (d1 d2:ByteArray) (w:World) :
 Calls Tryz.prog 32 #[.agg #[.int .i64 e1,.int .i64 n1,.string d1],.agg #[.int .i64 e2,.int .i64 n2,.string d2]] w fun e w'=>e=.returned (.bool (di ⟨e1,n1,d1⟩ ⟨e2,n2,d2⟩))∧Below w.heap.size w w':=by
 by_cases h:(e1 == e2)=true
 ·have HF:Hid (di ⟨e1,n1,d1⟩ ⟨e2,n2,d2⟩=decide (n2<n1)):=by show _=_;simp at h;simp [di,h]
  go_enter Tryz.func32,Tryz.ntmps32
  go_wp2
  go_ret
  exact ⟨fq HF.out.symm,((Below.refl _ _).alloc (Nat.le_refl _) _).alloc (by simp) _⟩
 ·have h':(e1 == e2)=false:=by simpa using h
  have HF:Hid (di ⟨e1,n1,d1⟩ ⟨e2,n2,d2⟩=decide (e2<e1)):=by show _=_;simp at h;simp [di,h]
  clear h
  go_enter Tryz.func32,Tryz.ntmps32
  go_wp2
  go_ret
  exact ⟨fq HF.out.symm,((Below.refl _ _).alloc (Nat.le_refl _) _).alloc (by simp) _⟩
def hasB (at':Int):Bool:=decide (0≤at') && decide (at'≤7)
theorem ade (x:Int) (w:World) :
 Calls Tryz.prog 118 #[.int .i64 x] w fun e w'=>e=.returned (.bool (hasB x))∧w=w':=by
 by_cases h:0≤x
 ·have h':decide (0≤x)=true:=by simpa using h
  have HF:Hid (hasB x=decide (x≤7)):=by show _=_;simp [hasB,h]
  clear h
  go_enter Tryz.func118,Tryz.ntmps118
  go_wp2
  go_ret
  exact ⟨fq HF.out.symm,rfl⟩
 ·have h':decide (0≤x)=false:=by simpa using h
  have HF:Hid (hasB x=false):=by show _=_;simp [hasB,h]
  clear h
  go_enter Tryz.func118,Tryz.ntmps118
  go_wp2
  go_ret
  exact ⟨fq HF.out.symm,rfl⟩
set_option maxRecDepth 100000
open Go.Deep
def bq (l:List Cel):List Value:=l.flatMap Cel.vs
def aj (f:Int) (l:List Cel):List Value:=.int .i64 f :: bq l
theorem ab4:∀ l:List Cel,(bq l).length=3*l.length
 | []=>rfl
 | c :: l=>by have:=ab4 l;simp only [bq,List.flatMap_cons,List.length_append,List.length_cons] at *;rw [this];simp [Cel.vs];omega
def At (W:World) (b:Nat) (l:List Value) (T:TypeId):Prop:=W.heap[b]? = some (.cells l.toArray T (0,0))
theorem At.cell {W:World} {b:Nat} {l:List Value} {T:TypeId} (h:At W b l T) (j:Nat):W.cell? ⟨b,j,.none⟩=l[j]? := by
 simp [World.cell?,show W.heap[b]? = _ from h]
theorem At.range {W:World} {b:Nat} {l:List Value} {T:TypeId} (h:At W b l T) (o:Nat) (cs:List Value) (hc:∀ j,j<cs.length→l[o+j]? = cs[j]?):W.rangeAt b o cs:=fun j v hv=>by
 rw [h.cell,hc j (List.getElem?_eq_some_iff.1 hv).1,hv]
theorem At.whole {W:World} {b:Nat} {l:List Value} {T:TypeId} (h:At W b l T):W.rangeAt b 0 l:=h.range 0 l (fun j _=>by rw [Nat.zero_add])
theorem At.there {W:World} {b:Nat} {l:List Value} {T:TypeId} (h:At W b l T) (o n:Nat) (ho:o+n≤l.length):W.there b o n:=fun j hj=>by
 refine ⟨?_,?_⟩
 ·rw [h.cell,List.getElem?_eq_getElem (by omega)];rfl
 ·simp [World.frozen?,show W.heap[b]? = _ from h]
theorem At.later {W W':World} {b B:Nat} {l:List Value} {T:TypeId} (h:At W b l T) (hb:Below B W W') (hB:b<B):At W' b l T:=by
 unfold At;rw [hb.block _ hB];exact h
theorem At.lt {W:World} {b:Nat} {l:List Value} {T:TypeId} (h:At W b l T):b<W.heap.size:=(Array.getElem?_eq_some_iff.1 h).1
theorem At.setCell_same {W:World} {b:Nat} {l:List Value} {T:TypeId} (h:At W b l T) (j:Nat) (v:Value):At (W.setCell ⟨b,j,.none⟩ v) b (l.set j v) T:=by
 have:=heap_setCell_same W b j _ T v h
 unfold At;rw [this];simp
theorem At.setCell_ne {W:World} {b:Nat} {l:List Value} {T:TypeId} (h:At W b l T) (p:Addr) (hp:b≠p.block) (v:Value):At (W.setCell p v) b l T:=by
 unfold At;rw [Below.heap_setCell _ _ _ _ hp];exact h
def il (l:List Value):Nat→List Value→List Value
 | _,[]=>l
 | o,v :: r=>il (l.set o v) (o+1) r
theorem At.set {T:TypeId} {b:Nat}:∀ (vs:List Value) (o:Nat) (W:World) (l:List Value),At W b l T→At (W.setCells b o vs) b (il l o vs) T
 | [],_,_,_,h=>h
 | v :: r,o,_,_,h=>At.set r (o+1) _ _ (h.setCell_same o v)
theorem At.set_ne {T:TypeId} {b b':Nat} (hne:b≠b') {l:List Value}:∀ (vs:List Value) (o:Nat) (W:World),At W b l T→At (W.setCells b' o vs) b l T
 | [],_,_,h=>h
 | v :: r,o,_,h=>At.set_ne hne r (o+1) _ (h.setCell_ne _ hne v)
theorem aai:∀ (vs pre l:List Value),l.length=vs.length→il (pre ++ l) pre.length vs=pre ++ vs
 | [],pre,l,h=>by have:l=[]:=List.eq_nil_of_length_eq_zero (by simpa using h);subst this;rfl
 | v :: r,pre,[],h=>by simp at h
 | v :: r,pre,x :: l,h=>by
   have:=aai r (pre ++ [v]) l (by simpa using h)
   simp only [il]
   rw [show (pre ++ x :: l).set pre.length v=(pre ++ [v]) ++ l by simp]
   rw [show pre.length+1=(pre ++ [v]).length by simp,this];simp
theorem ik (vs l:List Value) (h:l.length=vs.length):il l 0 vs=vs:=aai vs [] l h
theorem below_setCells {B:Nat} {b:Nat} (hb:B≤b) {w:World}:∀ (vs:List Value) (o:Nat) (W:World),Below B w W→Below B w (W.setCells b o vs)
 | [],_,_,h=>h
 | v :: r,o,_,h=>below_setCells hb r (o+1) _ (h.setCell (by exact hb) v)
theorem size_setCells (b:Nat):∀ (vs:List Value) (o:Nat) (W:World),(W.setCells b o vs).heap.size=W.heap.size
 | [],_,_=>rfl
 | v :: r,o,W=>by rw [World.setCells,size_setCells b r];simp [World.setCell]
theorem three (w:World) (x y z:Obj):∃ X,X=((w.alloc x).alloc y).alloc z∧X.heap[w.heap.size]? = some x∧X.heap[w.heap.size+1]? = some y∧X.heap[w.heap.size+1+1]? = some z∧Below w.heap.size w X∧X.heap.size=w.heap.size+3:=by
 refine ⟨_,rfl,?_,?_,?_,(((Below.refl _ _).alloc (Nat.le_refl _) _).alloc (by simp) _).alloc (by simp;omega) _,by simp⟩
 ·rw [Below.heap_alloc _ _ _ (by simp;omega),Below.heap_alloc _ _ _ (by simp)];exact heap_alloc_new w _
 ·rw [Below.heap_alloc _ _ _ (by simp)];simpa using heap_alloc_new (w.alloc x) y
 ·simpa using heap_alloc_new ((w.alloc x).alloc y) z
theorem vs_one {l:List Cel}:∀ v ∈ bq l,v.oneCell'=true:=by
 intro v hv
 simp only [bq,List.mem_flatMap] at hv
 obtain ⟨c,_,hv⟩:=hv
 simp [Cel.vs] at hv
 rcases hv with rfl|rfl|rfl
 ·rfl
 ·rfl
 ·rfl
theorem sz26:(Tryz.prog.info? 47).map (·.size)=some 25:=by kernel_rfl
theorem und26:∃ d,Tryz.prog.underlying 47=some d∧d.isRow=true:=⟨_,Tryz.underlying47,rfl⟩
theorem xg {X:World} {b:Nat} {T:TypeId} {cs:List Value} (h:At X b cs T) (hl:cs.length=25) :
 (Instr.loadAt 47 (.pointer (some ⟨b,0,.none⟩))).run Tryz.prog X=.ok (.agg cs.toArray) X:=by
 obtain ⟨d,hd,hr⟩:=und26
 exact run_loadAt_mid X b 0 _ cs d h.whole hd hr (by rw [hl];exact sz26)
theorem aav {X:World} {b:Nat} {T:TypeId} {cs vs:List Value} (h:At X b cs T) (hc:cs.length=25) (hl:vs.length=25) (h1:∀ v ∈ vs,v.oneCell'=true) :
 (Instr.storeAt 47 (.pointer (some ⟨b,0,.none⟩)) (.agg vs.toArray)).run Tryz.prog X=.ok () (X.setCells b 0 vs) :=
 run_storeAt_mid X b 0 _ vs.toArray (by simpa using h.there 0 vs.length (by omega)) (by simpa [hl] using sz26) (all_oneCell_toArray h1)
def z25:List Value:=[.int .i64 0,.int .i64 0,.int .i64 0,.string ⟨#[]⟩,.int .i64 0,.int .i64 0,.string ⟨#[]⟩,.int .i64 0,.int .i64 0,.string ⟨#[]⟩,.int .i64 0,.int .i64 0,.string ⟨#[]⟩,.int .i64 0,.int .i64 0,.string ⟨#[]⟩,.int .i64 0,.int .i64 0,.string ⟨#[]⟩,.int .i64 0,.int .i64 0,.string ⟨#[]⟩,.int .i64 0,.int .i64 0,.string ⟨#[]⟩]
theorem ak {P:Program} {ops:Array Oper} {rest:List Oper} {dst:Option Tmp} {T ty:TypeId} {x:Operand} {pos:String} {after:Array Edge} {gd:Option (Nat × Bool)} {a:Act} {w:World} {Q:Exit→Act→World→Prop} {p v:Value}
 (law:(Instr.loadAt T p).run P w=.ok v w) (hw:Region.wanted ⟨dst,.load T x,ty,pos,after,gd⟩ (yielded ops a.tmps)=true) (hx:a.eval x=p) (h:wpList P ops Q rest (a.put dst v) w):wpList P ops Q (⟨dst,.load T x,ty,pos,after,gd⟩ :: rest) a w :=
 BigFrame.wpList_want hw fun K hK=>by unfold Oper.wp execOp;simp only [hx,Sem.run_bind,law,Result.andThen_ok,Sem.run_pure];exact hK _ _ h
theorem cu {P:Program} {ops:Array Oper} {rest:List Oper} {dst:Option Tmp} {T ty:TypeId} {x y:Operand} {pos:String} {after:Array Edge} {a:Act} {w w':World} {Q:Exit→Act→World→Prop} {p v:Value}
 (law:(Instr.storeAt T p v).run P w=.ok () w') (hx:a.eval x=p) (hy:a.eval y=v) (h:wpList P ops Q rest (a.put dst undef) w'):wpList P ops Q (⟨dst,.store T x y,ty,pos,after,.none⟩ :: rest) a w :=
 wpList_plain rfl fun K hK=>by unfold Oper.wp execOp;simp only [hx,hy,Sem.run_bind,law,Result.andThen_ok,Sem.run_pure];exact hK _ _ h
set_option maxRecDepth 100000
structure LW (w:World) where
 val:World
 ok:Below w.heap.size w val
theorem Calls.quiet_lw {P:Program} {f:FuncId} {args:Array Value} {wr:World} {p:LW wr} {v:Value} (h:Calls P f args p.val fun e w'=>e=.returned v∧Below p.val.heap.size p.val w'):Calls P f args p.val (fun e w''=>e=.returned v∧∃ q:LW wr,w''=q.val) :=
 h.mono fun _ w' ⟨he,hb⟩=>⟨he,⟨w',p.ok.trans (hb.mono p.ok.size)⟩,rfl⟩
theorem xy {P:Program} {id:Nat} {Q:Exit→Act→World→Prop} {a:Act} {w:World} {l:List Oper} (hm:P.follows .mixedOrders=true) (hB:Region.lexB .any l.toArray=true)
 (h:wpQuiet P l.toArray (fun w'=>∃ p:LW w,w'=p.val) (fun a'=>∀ w',(∃ p:LW w,w'=p.val)→Q .normal a' w') l a):(Code.region id l.toArray true).wp P Q a w :=
 wp_region_quiet (C:=fun w'=>∃ p:LW w,w'=p.val) hm hB ⟨⟨w.drew,(Below.refl _ _).drew⟩,rfl⟩ (by simpa using h)
structure fo (l:List Cel):Prop where
 len:l.length=8
theorem fo.vlen {l:List Cel} (h:fo l) (f:Int):(aj f l).length=25:=by simp [aj,ab4,h.len]
theorem vone (l:List Cel) (f:Int):∀ v ∈ aj f l,v.oneCell'=true:=by
 intro v hv;simp only [aj,List.mem_cons] at hv;rcases hv with rfl|hv
 ·rfl
 ·exact vs_one v hv
theorem fo.set {l:List Cel} (h:fo l) (k:Nat) {c:Cel}:fo (l.set k c):=⟨by simp [h.len]⟩
theorem cells8_get:∀ (l:List Cel) (k:Nat) (h:k<l.length),(bq l)[3*k]? = some (.int .i64 l[k].e)∧(bq l)[3*k+1]? = some (.int .i64 l[k].n)∧(bq l)[3*k+2]? = some (.string l[k].d)
 | [],_,h=>by simp at h
 | c :: l,0,_=>by simp [bq,Cel.vs]
 | c :: l,k+1,h=>by
   have:=cells8_get l k (by simpa using h)
   have e:∀ j,(bq (c :: l))[3*(k+1)+j]? = (bq l)[3*k+j]? := fun j=>by
    show (_ :: _ :: _ :: bq l)[_]? = _
    rw [show 3*(k+1)+j=(3*k+j)+1+1+1 by omega];simp
   exact ⟨(e 0).trans this.1,(e 1).trans this.2.1,(e 2).trans this.2.2⟩
theorem cells8_set:∀ (l:List Cel) (k:Nat) (c:Cel),il (bq l) (3*k) c.vs=bq (l.set k c)
 | [],k,c=>by simp [bq,il,Cel.vs]
 | x :: l,0,c=>by simp [bq,il,Cel.vs]
 | x :: l,k+1,c=>by
   have:=cells8_set l k c
   simp only [Cel.vs,il] at this ⊢
   show ((List.set (_ :: _ :: _ :: bq l) _ _).set _ _).set _ _=_ :: _ :: _ :: bq (l.set k c)
   rw [←this,show 3*(k+1)=3*k+1+1+1 by omega]
   simp
theorem repV_get (f:Int) (l:List Cel) (k:Nat) (h:k<l.length):(aj f l)[1+k*3]? = some (.int .i64 l[k].e)∧(aj f l)[1+k*3+1]? = some (.int .i64 l[k].n)∧(aj f l)[1+k*3+2]? = some (.string l[k].d):=by
 have:=cells8_get l k h
 refine ⟨?_,?_,?_⟩
 ·rw [show 1+k*3=3*k+1 by omega];simpa [aj] using this.1
 ·rw [show 1+k*3+1=(3*k+1)+1 by omega];simpa [aj] using this.2.1
 ·rw [show 1+k*3+2=(3*k+2)+1 by omega];simpa [aj] using this.2.2
theorem repV_set (f:Int) (l:List Cel) (k:Nat) (c:Cel):il (aj f l) (1+k*3) c.vs=aj f (l.set k c):=by
 have:=cells8_set l k c
 simp only [Cel.vs,il,aj] at this ⊢
 rw [←this,show 1+k*3=3*k+1 by omega]
 simp
theorem tq {P:Program} {fn:Func} {r t:Tmp} {T:TypeId} {tmps:Array Value} {w:World} {b:Nat} {v:Value} (h:fn.results=#[.cell r T,.tmp t]) (hr:tmps.getD r undef=.pointer (some ⟨b,0,.none⟩))
 (law:(Instr.loadAt T (.pointer (some ⟨b,0,.none⟩))).run P w=.ok v w):(results fn tmps).run P w=.ok (.tuple #[v,tmps.getD t undef]) w:=by
 have law':(loadVar T ⟨b,0,.none⟩).run P w=.ok v w:=by simpa [Instr.loadAt,Instr.sureAddr,Sem.run_bind] using law
 simp only [Array.getD_eq_getD_getElem?] at hr
 simp [results,h,hr,asAddr,law']
theorem zg {P:Program} {fn:Func} {r:Tmp} {T:TypeId} {tmps:Array Value} {w:World} {b:Nat} {v:Value} (h:fn.results=#[.cell r T]) (hr:tmps.getD r undef=.pointer (some ⟨b,0,.none⟩))
 (law:(Instr.loadAt T (.pointer (some ⟨b,0,.none⟩))).run P w=.ok v w):(results fn tmps).run P w=.ok v w:=by
 have law':(loadVar T ⟨b,0,.none⟩).run P w=.ok v w:=by simpa [Instr.loadAt,Instr.sureAddr,Sem.run_bind] using law
 simp only [Array.getD_eq_getD_getElem?] at hr
 simp [results,h,hr,asAddr,law']
def ib (f:Int) (l:List Cel) (k:Nat) (c:Cel):List Cel:=if c.e=f then (if h:k<l.length then (if di c l[k] then l.set k c else l) else l) else l
theorem admit_no (f:Int) (l:List Cel) (x:Int) (e n:Int) (d:ByteArray) (w:World) (hl:fo l) (hx:hasB x=false∨(hasB x=true∧(e == f)=false)) :
 Calls Tryz.prog 92 #[.agg (aj f l).toArray,.int .i64 x,.agg #[.int .i64 e,.int .i64 n,.string d]] w fun r w'=>r=.returned (.tuple #[.agg (aj f l).toArray,.bool false])∧Below w.heap.size w w':=by
 obtain ⟨X,hX,a0,a1,a2,bX,sX⟩:=three w (.cells (aj f l).toArray 47) (.cells #[.int .i64 e,.int .i64 n,.string d] 44) (.cells z25.toArray 47)
 have A0:At X w.heap.size (aj f l) 47:=a0
 have A2:At X (w.heap.size+1+1) z25 47:=a2
 have c0:X.cell? ⟨w.heap.size+1,0,.none⟩=some (.int .i64 e):=by simp [World.cell?,a1]
 have f0:X.cell? ⟨w.heap.size,0,.none⟩=some (.int .i64 f):=A0.cell 0
 have hld:=xg A0 (hl.vlen f)
 have hst:=aav A2 rfl (hl.vlen f) (vone l f)
 have A2':At (X.setCells (w.heap.size+1+1) 0 (aj f l)) (w.heap.size+1+1) (aj f l) 47:=by
  have:=At.set (aj f l) 0 _ _ A2
  rwa [ik _ _ (by rw [hl.vlen f];rfl)] at this
 have hld2:=xg A2' (hl.vlen f)
 have bY:=below_setCells (show w.heap.size≤w.heap.size+1+1 by omega) (aj f l) 0 _ bX
 simp only [z25] at hX
 clear a0 a1 a2 A0 A2 A2' hl
 generalize X.setCells (w.heap.size+1+1) 0 (aj f l)=Y at *
 have HL:Hid ((Instr.loadAt 47 (.pointer (some ⟨w.heap.size,0,.none⟩))).run Tryz.prog X=.ok (.agg (aj f l).toArray) X):=hld
 have HS:Hid ((Instr.storeAt 47 (.pointer (some ⟨w.heap.size+1+1,0,.none⟩)) (.agg (aj f l).toArray)).run Tryz.prog X=.ok () Y):=hst
 have HL2:Hid ((Instr.loadAt 47 (.pointer (some ⟨w.heap.size+1+1,0,.none⟩))).run Tryz.prog Y=.ok (.agg (aj f l).toArray) Y):=hld2
 clear hld hst hld2
 rcases hx with hx|⟨hx,he⟩
 ·go_enter Tryz.func92,Tryz.ntmps92
  go_wp2_with fail
  rw [←hX]
  clear hX
  refine (ade x _).mono ?_
  rintro r w1 ⟨rfl,rfl⟩
  go_wp2_with (first|(with_reducible refine ak HL.out rfl rfl ?_)|(with_reducible refine cu HS.out rfl rfl ?_))
  refine bodyPost_ret (tq Tryz.results92 rfl HL2.out) rfl ⟨rfl,bY⟩
 ·go_enter Tryz.func92,Tryz.ntmps92
  go_wp2_with fail
  rw [←hX]
  clear hX
  refine (ade x _).mono ?_
  rintro r w1 ⟨rfl,rfl⟩
  go_wp2_with (first|(with_reducible refine ak HL.out rfl rfl ?_)|(with_reducible refine cu HS.out rfl rfl ?_))
  refine bodyPost_ret (tq Tryz.results92 rfl HL2.out) rfl ⟨rfl,bY⟩
theorem sz23:(Tryz.prog.info? 44).map (·.size)=some 3:=by kernel_rfl
theorem und23:∃ d,Tryz.prog.underlying 44=some d∧d.isRow=true:=⟨_,Tryz.underlying44,rfl⟩
theorem p8 {X:World} {b o:Nat} {c:Cel} (h:X.rangeAt b o c.vs) :
 (Instr.loadAt 44 (.pointer (some ⟨b,o,.none⟩))).run Tryz.prog X=.ok (.agg #[.int .i64 c.e,.int .i64 c.n,.string c.d]) X:=by
 obtain ⟨d,hd,hr⟩:=und23
 exact run_loadAt_mid X b o _ c.vs d h hd hr sz23
theorem aax {X:World} {b o:Nat} {T:TypeId} {cs:List Value} (c:Cel) (h:At X b cs T) (ho:o+3≤cs.length) :
 (Instr.storeAt 44 (.pointer (some ⟨b,o,.none⟩)) (.agg #[.int .i64 c.e,.int .i64 c.n,.string c.d])).run Tryz.prog X=.ok () (X.setCells b o c.vs) :=
 run_storeAt_mid X b o _ #[.int .i64 c.e,.int .i64 c.n,.string c.d] (h.there o 3 ho) sz23 (all_oneCell_toArray (cs:=c.vs) (fun v hv=>by simp [Cel.vs] at hv;rcases hv with rfl|rfl|rfl <;> rfl))
theorem admit_yes (f:Int) (l:List Cel) (k:Nat) (c:Cel) (w:World) (hl:fo l) (hk:k<l.length) (hx:hasB k=true) (he:(c.e == f)=true) (b:Bool) (hn:di c l[k]=b) :
 Calls Tryz.prog 92 #[.agg (aj f l).toArray,.int .i64 k,.agg #[.int .i64 c.e,.int .i64 c.n,.string c.d]] w fun r w'=>r=.returned (.tuple #[.agg (aj f (if b=true then l.set k c else l)).toArray,.bool true])∧Below w.heap.size w w':=by
 obtain ⟨X,hX,a0,a1,a2,bX,sX⟩:=three w (.cells (aj f l).toArray 47) (.cells #[.int .i64 c.e,.int .i64 c.n,.string c.d] 44) (.cells z25.toArray 47)
 have A0:At X w.heap.size (aj f l) 47:=a0
 have A1:At X (w.heap.size+1) c.vs 44:=a1
 have A2:At X (w.heap.size+1+1) z25 47:=a2
 have k8:(k:Int)<8:=by have:=hl.len;omega
 simp only [z25] at hX
 go_enter Tryz.func92,Tryz.ntmps92
 go_wp2_with fail
 rw [←hX]
 clear hX
 refine (ade k _).mono ?_
 rintro r w1 ⟨rfl,rfl⟩
 have c0:X.cell? ⟨w.heap.size+1,0,.none⟩=some (.int .i64 c.e):=A1.cell 0
 have f0:X.cell? ⟨w.heap.size,0,.none⟩=some (.int .i64 f):=A0.cell 0
 go_wp2_with fail
 have hinh:Nonempty (LW X):=⟨⟨X,Below.refl _ _⟩⟩
 have q0:∀ p:LW X,p.val.cell? ⟨w.heap.size+1,0,.none⟩=some (.int .i64 c.e):=fun p=>cell_later p.ok (A1.cell 0)
 have q1:∀ p:LW X,p.val.cell? ⟨w.heap.size+1,1,.none⟩=some (.int .i64 c.n):=fun p=>cell_later p.ok (A1.cell 1)
 have q2:∀ p:LW X,p.val.cell? ⟨w.heap.size+1,2,.none⟩=some (.string c.d):=fun p=>cell_later p.ok (A1.cell 2)
 obtain ⟨g0,g1,g2⟩:=repV_get f l k hk
 have s0:∀ p:LW X,p.val.cell? ⟨w.heap.size,1+k*3,.none⟩=some (.int .i64 l[k].e):=fun p=>cell_later p.ok ((A0.cell _).trans g0)
 have s1:∀ p:LW X,p.val.cell? ⟨w.heap.size,1+k*3+1,.none⟩=some (.int .i64 l[k].n):=fun p=>cell_later p.ok ((A0.cell _).trans g1)
 have s2:∀ p:LW X,p.val.cell? ⟨w.heap.size,1+k*3+2,.none⟩=some (.string l[k].d):=fun p=>cell_later p.ok ((A0.cell _).trans g2)
 clear c0 f0 g0 g1 g2
 have HN:Hid (di ⟨c.e,c.n,c.d⟩ ⟨l[k].e,l[k].n,l[k].d⟩=b):=hn
 clear hn
 refine xy (by kernel_rfl) (by kernel_rfl) ?_
 repeat (go_big_quiet_step ((go_at_call 32;exact Calls.quiet_lw (abv c.e c.n l[k].e l[k].n c.d l[k].d _))))
 refine wpQuiet_nil ?_
 rintro Z ⟨⟨_,hZ⟩,rfl⟩
 clear q0 q1 q2 s0 s1 s2 hinh
 rw [HN.out]
 have A0:=A0.later hZ A0.lt
 have A1:=A1.later hZ A1.lt
 have A2:=A2.later hZ A2.lt
 have bZ:=bX.trans (hZ.mono bX.size)
 clear hZ bX sX a0 a1 a2 HN
 cases b with
 | true =>
   have hk3:1+k*3+3≤(aj f l).length:=by have:=hl.vlen f;have:=hl.len;omega
   have HC:Hid ((Instr.loadAt 44 (.pointer (some ⟨w.heap.size+1,0,.none⟩))).run Tryz.prog Z=.ok (.agg #[.int .i64 c.e,.int .i64 c.n,.string c.d]) Z):=p8 A1.whole
   have hs1:=aax (o:=1+k*3) c A0 hk3
   have A0':=At.set c.vs (1+k*3) _ _ A0
   have A2':=At.set_ne (show w.heap.size+1+1≠w.heap.size by omega) c.vs (1+k*3) _ A2
   have bZ':=below_setCells (Nat.le_refl w.heap.size) c.vs (1+k*3) _ bZ
   rw [repV_set] at A0'
   have hl':=hl.set k (c:=c)
   obtain ⟨l',HE⟩:∃ l',Hid (l.set k c=l'):=⟨_,rfl⟩
   rw [HE.out] at A0' hl'
   generalize Z.setCells w.heap.size (1+k*3) c.vs=Z1 at *
   have HT:Hid ((Instr.storeAt 44 (.pointer (some ⟨w.heap.size,1+k*3,.none⟩)) (.agg #[.int .i64 c.e,.int .i64 c.n,.string c.d])).run Tryz.prog Z=.ok () Z1):=hs1
   clear hs1 A0 A1 A2 bZ hl hk3 hx
   have HL:Hid ((Instr.loadAt 47 (.pointer (some ⟨w.heap.size,0,.none⟩))).run Tryz.prog Z1=.ok (.agg (aj f l').toArray) Z1):=xg A0' (hl'.vlen f)
   have hst:=aav A2' rfl (hl'.vlen f) (vone l' f)
   have A2'':At (Z1.setCells (w.heap.size+1+1) 0 (aj f l')) (w.heap.size+1+1) (aj f l') 47:=by
    have:=At.set (aj f l') 0 _ _ A2'
    rwa [ik _ _ (by rw [hl'.vlen f];rfl)] at this
   have hld2:=xg A2'' (hl'.vlen f)
   have bY:=below_setCells (show w.heap.size≤w.heap.size+1+1 by omega) (aj f l') 0 _ bZ'
   generalize Z1.setCells (w.heap.size+1+1) 0 (aj f l')=Y at *
   have HS:Hid ((Instr.storeAt 47 (.pointer (some ⟨w.heap.size+1+1,0,.none⟩)) (.agg (aj f l').toArray)).run Tryz.prog Z1=.ok () Y):=hst
   have HL2:Hid ((Instr.loadAt 47 (.pointer (some ⟨w.heap.size+1+1,0,.none⟩))).run Tryz.prog Y=.ok (.agg (aj f l').toArray) Y):=hld2
   clear hst hld2 A0' A2' A2'' hl'
   go_wp2_with (first|(with_reducible refine ak HL.out rfl rfl ?_)|(with_reducible refine ak HC.out rfl rfl ?_)|(with_reducible refine cu HS.out rfl rfl ?_)|(with_reducible refine cu HT.out rfl rfl ?_))
   refine bodyPost_ret (tq Tryz.results92 rfl HL2.out) rfl ⟨by rw [←HE.out];rfl,bY⟩
 | false =>
   have HL:Hid ((Instr.loadAt 47 (.pointer (some ⟨w.heap.size,0,.none⟩))).run Tryz.prog Z=.ok (.agg (aj f l).toArray) Z):=xg A0 (hl.vlen f)
   have hst:=aav A2 rfl (hl.vlen f) (vone l f)
   have A2':At (Z.setCells (w.heap.size+1+1) 0 (aj f l)) (w.heap.size+1+1) (aj f l) 47:=by
    have:=At.set (aj f l) 0 _ _ A2
    rwa [ik _ _ (by rw [hl.vlen f];rfl)] at this
   have hld2:=xg A2' (hl.vlen f)
   have bY:=below_setCells (show w.heap.size≤w.heap.size+1+1 by omega) (aj f l) 0 _ bZ
   generalize Z.setCells (w.heap.size+1+1) 0 (aj f l)=Y at *
   have HS:Hid ((Instr.storeAt 47 (.pointer (some ⟨w.heap.size+1+1,0,.none⟩)) (.agg (aj f l).toArray)).run Tryz.prog Z=.ok () Y):=hst
   have HL2:Hid ((Instr.loadAt 47 (.pointer (some ⟨w.heap.size+1+1,0,.none⟩))).run Tryz.prog Y=.ok (.agg (aj f l).toArray) Y):=hld2
   clear hst hld2 A0 A1 A2 A2' hl
   go_wp2_with (first|(with_reducible refine ak HL.out rfl rfl ?_)|(with_reducible refine cu HS.out rfl rfl ?_))
   refine bodyPost_ret (tq Tryz.results92 rfl HL2.out) rfl ⟨rfl,bY⟩
theorem admit_any (f:Int) (l:List Cel) (k:Nat) (c:Cel) (w:World) (hl:fo l) (hk:k<8) :
 Calls Tryz.prog 92 #[.agg (aj f l).toArray,.int .i64 k,.agg #[.int .i64 c.e,.int .i64 c.n,.string c.d]] w fun r w'=>r=.returned (.tuple #[.agg (aj f (ib f l k c)).toArray,.bool (c.e == f)])∧Below w.heap.size w w':=by
 have hx:hasB k=true:=by simp [hasB];omega
 have hk':k<l.length:=by rw [hl.len];exact hk
 by_cases he:c.e=f
 ·have he':(c.e == f)=true:=by simpa using he
  refine (admit_yes f l k c w hl hk' hx he' _ rfl).mono fun r w' h=>?_
  rw [h.1]
  refine ⟨?_,h.2⟩
  simp [ib,he,hk']
 ·have he':(c.e == f)=false:=by simpa using he
  refine (admit_no f l k c.e c.n c.d w hl (.inr ⟨hx,he'⟩)).mono fun r w' h=>?_
  rw [h.1,he']
  exact ⟨by simp [ib,he],h.2⟩
theorem admL_ok {f:Int} {l:List Cel} {k:Nat} {c:Cel} (hl:fo l):fo (ib f l k c):=by
 unfold ib
 split
 ·split
  ·split
   ·exact hl.set k
   ·exact hl
  ·exact hl
 ·exact hl
set_option maxRecDepth 100000
theorem Tryz.cellsCel:Tryz.prog.cellsOf 44=3:=by kernel_rfl
def eqCel (a b:Cel):Bool:=a.e == b.e && (a.n == b.n && a.d.toList == b.d.toList)
def eqL:List Cel→List Cel→Bool
 | a :: l,b :: l'=>eqCel a b && eqL l l'
 | _,_=>true
def eqRep (f:Int) (l:List Cel) (f':Int) (l':List Cel):Bool:=f == f' && eqL l l'
theorem ac6 (a:Cel):eqCel a a=true:=by simp [eqCel]
theorem eqL_refl:∀ l,eqL l l=true
 | []=>rfl
 | a :: l=>by simp [eqL,ac6,eqL_refl l]
theorem eqRep_refl (f:Int) (l:List Cel):eqRep f l f l=true:=by simp [eqRep,eqL_refl]
theorem part_cel (w:World) (pre:List Cel) (c:Cel) (l:List Cel):(part 44 (bq (pre ++ c :: l)).toArray (pre.length*3)).run Tryz.prog w=.ok (.agg #[.int .i64 c.e,.int .i64 c.n,.string c.d]) w:=by
 have e:((bq (pre ++ c :: l)).toArray.extract (pre.length*3) (pre.length*3+3))=#[.int .i64 c.e,.int .i64 c.n,.string c.d]:=by
  rw [List.extract_toArray,List.extract_eq_take_drop,show bq (pre ++ c :: l)=bq pre ++ (c.vs ++ bq l) by simp [bq]]
  rw [List.drop_left' (by rw [ab4];omega),show pre.length*3+3 - pre.length*3=3 by omega]
  rfl
 obtain ⟨i,hi,hs⟩:∃ i,Tryz.prog.info? 44=some i∧i.size=3:=by
  have:=sz23
  cases h:Tryz.prog.info? 44 with
  | none=>rw [h] at this;cases this
  | some i=>rw [h] at this;exact ⟨i,rfl,by simpa using this⟩
 have hagg:(isAgg 44).run Tryz.prog w=.ok true w:=by
  unfold isAgg;rw [Sem.run_bind,run_underlying Tryz.underlying44 w];rfl
 have hsz:(sizeOf 44).run Tryz.prog w=.ok 3 w:=by simp [sizeOf,typeInfo,hi,hs]
 simp only [part,Sem.run_bind,hagg,Result.andThen_ok,if_true,hsz,Sem.run_pure,e]
theorem acr (d:Nat) (a b:Cel) (w:World):(Op.equalIn (d+2) 44 (.agg #[.int .i64 a.e,.int .i64 a.n,.string a.d]) (.agg #[.int .i64 b.e,.int .i64 b.n,.string b.d])).run Tryz.prog w=.ok (eqCel a b) w:=by
 simp only [eqCel]
 by_cases h0:a.e=b.e <;> by_cases h1:a.n=b.n <;> by_cases h2:a.d.toList=b.d.toList <;> simp [go_sem,h0,h1,h2]
theorem run_items (d:Nat) (w:World):∀ (l l' pre pre':List Cel),pre.length=pre'.length→l.length=l'.length →
 (Op.eqItems (d+2) 44 3 (bq (pre ++ l)).toArray (bq (pre' ++ l')).toArray (List.range' pre.length l.length)).run Tryz.prog w=.ok (eqL l l') w
 | [],[],_,_,_,_=>by simp [Op.eqItems,eqL]
 | [],_ :: _,_,_,_,h=>by simp at h
 | _ :: _,[],_,_,_,h=>by simp at h
 | a :: l,b :: l',pre,pre',hp,hl=>by
   have ih:=run_items d w l l' (pre ++ [a]) (pre' ++ [b]) (by simp [hp]) (by simpa using hl)
   simp only [List.append_assoc,List.singleton_append,List.length_append,List.length_singleton] at ih
   simp only [List.length_cons,List.range'_succ,Op.eqItems,Sem.run_bind,part_cel,Result.andThen_ok]
   rw [hp,part_cel]
   simp only [Result.andThen_ok,acr]
   rw [←hp]
   cases h:eqCel a b with
   | false=>simp [eqL,h]
   | true=>simp only [Bool.not_true,Bool.false_eq_true,if_false,eqL,h,Bool.true_and];exact ih
theorem run_eq_arr (d:Nat) (l l':List Cel) (w:World) (h:fo l) (h':fo l'):(Op.equalIn (d+3) 45 (.agg (bq l).toArray) (.agg (bq l').toArray)).run Tryz.prog w=.ok (eqL l l') w:=by
 obtain ⟨i,hi⟩:∃ i,Tryz.prog.info? 44=some i:=by
  have:=sz23
  cases h:Tryz.prog.info? 44 with
  | none=>rw [h] at this;cases this
  | some i=>exact ⟨i,rfl⟩
 rw [run_equalIn_array w _ _ _ Tryz.underlying45 hi,Tryz.cellsCel]
 have:=run_items d w l l' [] [] rfl (by rw [h.len,h'.len])
 rwa [h.len,List.nil_append,List.nil_append,List.length_nil,←List.range_eq_range'] at this
section
variable {H:Type} {enc:TypeId × Value→H}
end
def mr:List Cel:=List.replicate 8 ⟨0,0,⟨#[]⟩⟩
theorem aah:fo mr:=⟨rfl⟩
theorem one_new (w:World) (vs:List Value) (hv:vs.length=25) (h1:∀ v ∈ vs,v.oneCell'=true):∃ Y,(Instr.storeAt 47 (.pointer (some ⟨w.heap.size,0,.none⟩)) (.agg vs.toArray)).run Tryz.prog (w.alloc (.cells z25.toArray 47))=.ok () Y ∧
 At Y w.heap.size vs 47∧Below w.heap.size w Y∧Y.heap.size=w.heap.size+1:=by
 have A:At (w.alloc (.cells z25.toArray 47)) w.heap.size z25 47:=heap_alloc_new w _
 refine ⟨_,aav A rfl hv h1,?_,below_setCells (Nat.le_refl _) _ _ _ ((Below.refl _ _).alloc (Nat.le_refl _) _),?_⟩
 ·have:=At.set vs 0 _ _ A
  rwa [ik _ _ (by rw [hv];rfl)] at this
 ·rw [size_setCells];simp
theorem new_any (w:World):Calls Tryz.prog 97 #[] w fun r w'=>r=.returned (.agg (aj 1 mr).toArray)∧Below w.heap.size w w':=by
 obtain ⟨Y,hst,AY,bY,_⟩:=one_new w (aj 1 mr) rfl (vone mr 1)
 have HS:Hid ((Instr.storeAt 47 (.pointer (some ⟨w.heap.size,0,.none⟩)) (.agg (aj 1 mr).toArray)).run Tryz.prog (w.alloc (.cells z25.toArray 47))=.ok () Y):=hst
 have HL:Hid ((Instr.loadAt 47 (.pointer (some ⟨w.heap.size,0,.none⟩))).run Tryz.prog Y=.ok (.agg (aj 1 mr).toArray) Y):=xg AY rfl
 clear hst AY
 go_enter Tryz.func97,Tryz.ntmps97
 go_wp2_with (refine cu HS.out rfl rfl ?_)
 refine bodyPost_ret (zg Tryz.results97 rfl HL.out) rfl ⟨rfl,bY⟩
set_option maxRecDepth 100000
def adm1 (f:Int) (v c:Cel):Cel:=if c.e=f then (if di c v=true then c else v) else v
theorem admL_is {f:Int} {l:List Cel} {k:Nat} {c:Cel} (hk:k<l.length):ib f l k c=l.set k (adm1 f l[k] c):=by
 unfold ib adm1
 rw [dif_pos hk]
 split
 ·split
  ·rfl
  ·simp
 ·simp
theorem xw (c:Cel):di c c=false:=by simp [di]
theorem adm1_old (f:Int) (v c:Cel):di v (adm1 f v c)=false:=by
 unfold adm1
 by_cases h:c.e=f
 ·by_cases h2:di c v=true
  ·simp only [h,h2,if_true]
   unfold di at h2 ⊢
   by_cases h3:c.e=v.e
   ·simp [h3] at h2 ⊢;omega
   ·have h3':v.e≠c.e:=fun e=>h3 e.symm
    simp [h3] at h2;simp [h3'];omega
  ·simp [h,h2,xw]
 ·simp [h,xw]
set_option maxRecDepth 100000
structure Rep where
 f:Int
 l:List Cel
def Rep.vs (r:Rep):List Value:=aj r.f r.l
def jd (rs:List Rep):List Value:=rs.flatMap Rep.vs
def grV (rs:List Rep) (up:List Bool):List Value:=jd rs ++ up.map Value.bool
structure GOK (rs:List Rep) (up:List Bool):Prop where
 len:rs.length=3
 upl:up.length=3
 ok:∀ r ∈ rs,fo r.l
theorem yu:∀ (rs:List Rep),(∀ r ∈ rs,fo r.l)→(jd rs).length=25*rs.length
 | [],_=>rfl
 | r :: rs,h=>by
   have ih:=yu rs (fun x hx=>h x (List.mem_cons_of_mem _ hx))
   show (r.vs ++ jd rs).length=_
   rw [List.length_append,ih,show r.vs.length=25 from (h r List.mem_cons_self).vlen r.f]
   simp;omega
theorem GOK.vlen {rs:List Rep} {up:List Bool} (h:GOK rs up):(grV rs up).length=78:=by
 unfold grV
 rw [List.length_append,yu rs h.ok,h.len,List.length_map,h.upl]
theorem repsV_one (rs:List Rep):∀ v ∈ jd rs,v.oneCell'=true:=by
 intro v hv
 simp only [jd,List.mem_flatMap] at hv
 obtain ⟨r,_,hv⟩:=hv
 exact vone r.l r.f v hv
theorem tu (rs:List Rep) (up:List Bool):∀ v ∈ grV rs up,v.oneCell'=true:=by
 intro v hv
 simp only [grV,List.mem_append] at hv
 rcases hv with hv|hv
 ·exact repsV_one rs v hv
 ·simp only [List.mem_map] at hv
  obtain ⟨b,_,rfl⟩:=hv
  rfl
theorem repsV_at:∀ (rs:List Rep),(∀ r ∈ rs,fo r.l)→∀ (i:Nat) (h:i<rs.length) (j:Nat),j<25→(jd rs)[i*25+j]? = (rs[i].vs)[j]?
 | [],_,i,h,_,_=>by simp at h
 | r :: rs,hk,0,_,j,hj=>by
   show (r.vs ++ jd rs)[0*25+j]? = _
   rw [Nat.zero_mul,Nat.zero_add,List.getElem?_append_left (by rw [show r.vs.length=25 from (hk r List.mem_cons_self).vlen r.f];exact hj)]
   rfl
 | r :: rs,hk,i+1,h,j,hj=>by
   have ih:=repsV_at rs (fun x hx=>hk x (List.mem_cons_of_mem _ hx)) i (by simpa using h) j hj
   show (r.vs ++ jd rs)[(i+1)*25+j]? = _
   have hl:r.vs.length=25:=(hk r List.mem_cons_self).vlen r.f
   rw [List.getElem?_append_right (by omega),hl,show (i+1)*25+j - 25=i*25+j by omega,ih]
   simp
theorem GOK.rep {rs:List Rep} {up:List Bool} (h:GOK rs up) (i:Nat) (hi:i<rs.length) (j:Nat) (hj:j<25):(grV rs up)[i*25+j]? = (rs[i].vs)[j]? := by
 unfold grV
 rw [List.getElem?_append_left (by rw [yu rs h.ok];omega)]
 exact repsV_at rs h.ok i hi j hj
theorem GOK.upc {rs:List Rep} {up:List Bool} (h:GOK rs up) (i:Nat) (hi:i<up.length):(grV rs up)[75+i]? = some (.bool up[i]):=by
 unfold grV
 rw [List.getElem?_append_right (by rw [yu rs h.ok,h.len];omega),yu rs h.ok,h.len,show 75+i - 25*3=i by omega,List.getElem?_map,List.getElem?_eq_getElem hi]
 rfl
theorem GOK.floor {rs:List Rep} {up:List Bool} (h:GOK rs up) (i:Nat) (hi:i<rs.length):(grV rs up)[i*25]? = some (.int .i64 rs[i].f):=by
 have:=h.rep i hi 0 (by decide)
 rw [Nat.add_zero] at this
 rw [this];rfl
theorem sz38:(Tryz.prog.info? 51).map (·.size)=some 78:=by kernel_rfl
theorem und38:∃ d,Tryz.prog.underlying 51=some d∧d.isRow=true:=⟨_,Tryz.underlying51,rfl⟩
theorem gz {X:World} {b:Nat} {T:TypeId} {cs:List Value} (h:At X b cs T) (hl:cs.length=78) :
 (Instr.loadAt 51 (.pointer (some ⟨b,0,.none⟩))).run Tryz.prog X=.ok (.agg cs.toArray) X:=by
 obtain ⟨d,hd,hr⟩:=und38
 exact run_loadAt_mid X b 0 _ cs d h.whole hd hr (by rw [hl];exact sz38)
theorem uf {X:World} {b:Nat} {T:TypeId} {cs vs:List Value} (h:At X b cs T) (hc:cs.length=78) (hl:vs.length=78) (h1:∀ v ∈ vs,v.oneCell'=true) :
 (Instr.storeAt 51 (.pointer (some ⟨b,0,.none⟩)) (.agg vs.toArray)).run Tryz.prog X=.ok () (X.setCells b 0 vs) :=
 run_storeAt_mid X b 0 _ vs.toArray (by simpa using h.there 0 vs.length (by omega)) (by simpa [hl] using sz38) (all_oneCell_toArray h1)
theorem abo (a:Option Addr) (n c:Nat) (w:World):Calls Tryz.prog 112 #[.slice a n c] w fun e w'=>e=.returned (.bool (decide (2≤n)))∧w=w':=by
 go_enter Tryz.func112,Tryz.ntmps112
 go_wp2
 go_ret
 exact ⟨fq (by rw [decide_eq_decide];omega),rfl⟩
def upB (up:List Bool) (x:Int):Bool:=decide (0≤x) && (decide (x<3) && up.getD x.toNat false)
theorem isUp_any (rs:List Rep) (up:List Bool) (x:Int) (w:World) (h:GOK rs up):Calls Tryz.prog 91 #[.agg (grV rs up).toArray,.int .i64 x] w fun e w'=>e=.returned (.bool (upB up x))∧Below w.heap.size w w':=by
 have b1:Below w.heap.size w (w.alloc (.cells (grV rs up).toArray 51)):=(Below.refl _ _).alloc (Nat.le_refl _) _
 have A:At (w.alloc (.cells (grV rs up).toArray 51)) w.heap.size (grV rs up) 51:=heap_alloc_new w _
 by_cases h0:0≤x
 case neg =>
  have h0':decide (0≤x)=false:=by simpa using h0
  have HF:Hid (upB up x=false):=by show _=_;simp [upB,h0]
  clear h0
  go_enter Tryz.func91,Tryz.ntmps91
  go_wp2
  go_ret
  exact ⟨fq HF.out.symm,b1⟩
 have h0':decide (0≤x)=true:=by simpa using h0
 by_cases h3:x<3
 case neg =>
  have h3':decide (x<3)=false:=by simpa using h3
  have HF:Hid (upB up x=false):=by show _=_;simp [upB,h3]
  clear h0 h3
  go_enter Tryz.func91,Tryz.ntmps91
  go_wp2
  go_ret
  exact ⟨fq HF.out.symm,b1⟩
 have h3':decide (x<3)=true:=by simpa using h3
 obtain ⟨k,rfl⟩:∃ k:Nat,x=k:=⟨x.toNat,by omega⟩
 have hk:k<up.length:=by rw [h.upl];omega
 have HF:Hid (upB up k=up[k]):=by show _=_;simp [upB,h3,hk]
 have hc:(w.alloc (.cells (grV rs up).toArray 51)).cell? ⟨w.heap.size,75+k,.none⟩=some (.bool up[k]):=(A.cell _).trans (h.upc k hk)
 clear A
 go_enter Tryz.func91,Tryz.ntmps91
 go_wp2
 go_ret
 exact ⟨fq HF.out.symm,b1⟩
end Go.Proofs.YtpkhdihoijkamaaGreatDoor.G
namespace Go.Proofs.YtpkhdihoijkamaaGreatDoor
open Go.ChangeShapes Go.WideShapes Go.ChangeAt Go.RowKit
def dz (w:World) (a:Option Addr) (n:Nat) (l:List Int):Prop :=
 l.length=n∧n≤9223372036854775807∧(n≠0→∃ b off,a=some ⟨b,off,.none⟩∧∀ i (h:i<l.length),w.cell? ⟨b,off+i,.none⟩=some (.int .i64 l[i]))
theorem dz.later {w w':World} {a:Option Addr} {n:Nat} {l:List Int} (h:dz w a n l) (hb:Below w.heap.size w w'):dz w' a n l:=by
 refine ⟨h.1,h.2.1,fun hn=>?_⟩
 obtain ⟨b,off,ha,hc⟩:=h.2.2 hn
 exact ⟨b,off,ha,fun i hi=>cell_later hb (hc i hi)⟩
def ja (w:World) (base:Nat) (v:Value) (l:List Int):Prop:=w.ownsRow base 3 1 v l.length (l.map (Value.int .i64))
theorem ja.form {w:World} {base:Nat} {v:Value} {l:List Int} (h:ja w base v l):∃ a n c,v=.slice a n c∧dz w a n l:=by
 rcases h.2 with ⟨rfl,h0⟩|⟨g,cap,cur,rfl,hb,hg,hnc,hcm,hs,ht⟩
 ·have:l=[]:=List.eq_nil_of_length_eq_zero h0
  subst this
  exact ⟨_,_,_,rfl,rfl,by decide,fun h=>absurd rfl h⟩
 ·have hm:cap≤9223372036854775807:=by simpa [maxLen] using hcm
  refine ⟨_,_,_,rfl,rfl,by omega,fun _=>⟨g,0,rfl,fun i hi=>?_⟩⟩
  have:=World.ownsRow.cellAt h i (by omega)
  rw [Nat.zero_add,this]
  simp [hi]
theorem ja.later {X X':World} {base B:Nat} {v:Value} {l:List Int} (h:ja X base v l) (hb:Below B X X') (hB:X.heap.size≤B):ja X' base v l:=by
 refine ⟨h.1,?_⟩
 rcases h.2 with h0|⟨g,cap,cur,e,h1,hg,h2⟩
 ·exact .inl h0
 ·have:=(Array.getElem?_eq_some_iff.1 hg).1
  exact .inr ⟨g,cap,cur,e,h1,by rw [hb.block g (by omega)];exact hg,h2⟩
theorem ja.block {w:World} {base:Nat} {v:Value} {l:List Int} (h:ja w base v l):∀ k,v.ownBlock=some k→base≤k:=by
 intro k hk
 rcases h.2 with ⟨rfl,_⟩|⟨g,cap,cur,rfl,hb,_⟩
 ·cases hk
 ·simp [Value.ownBlock] at hk;omega
theorem zero_int:∃ i,Tryz.prog.info? 3=some i∧i.zero=some (.int .i64 0)∧i.size=1∧i.bytes=8:=by
 have h:(Tryz.prog.info? 3).map (fun i=>(i.zero,i.size,i.bytes))=some (some (.int .i64 0),1,8):=by kernel_rfl
 cases hi:Tryz.prog.info? 3 with
 | none=>rw [hi] at h;cases h
 | some i=>rw [hi] at h;simp at h;exact ⟨i,rfl,h.1,h.2.1,h.2.2⟩
theorem adr {ops:Array Oper} {rest:List Oper} {o:Oper} {a:Act} {Q:Exit→Act→World→Prop} (hgd:o.guard=.none) (s x:Operand) (hop:o.op=.call { callee:=.builtin .append,args:=#[s,x],argTypes:=#[25,25] })
 (base:Nat) (u:Value) (acc:List Int) (p:Int) (X:World) (hs:a.eval s=u) (hx:a.eval x=.slice (some ⟨X.heap.size,0,.none⟩) 1 1) (ho:ja X base u acc) (hl:acc.length≤1000000) (hb:base≤X.heap.size)
 (h:∀ a' n' c' w',ja w' base (.slice a' n' c') (acc ++ [p])→Below base X w'→wpList Tryz.prog ops Q rest (a.put o.dst (.slice a' n' c')) w') :
 wpList Tryz.prog ops Q (o :: rest) a (X.alloc (.cells #[.int .i64 p] 3)):=by
 obtain ⟨i0,hi,hz0,hz1,hz2⟩:=zero_int
 have hX:Below X.heap.size X (X.alloc (.cells #[.int .i64 p] 3)):=(Below.refl _ _).alloc (Nat.le_refl _) _
 have ho':=ho.later hX (Nat.le_refl _)
 refine wpList_append_own _ hgd s x 25 hop base 3 i0 _ 1 8 Tryz.underlying25 hi hz0 hz1 hz2 rfl (by decide) u acc.length _ hs ho' ⟨X.heap.size,0,.none⟩ 1 1 [.int .i64 p] hx rfl
  (fun j v hj=>by cases j with
   | zero=>simp at hj;subst hj;simp [Addr.add,go_sem]
   | succ j=>simp at hj) (fun v hv=>by simp at hv;subst hv;rfl) (by simp only [maxLen];omega) (by omega) (by have:=hX.size;omega) ?_
 intro v' w' hown hgrow hnil
 have hO:ja w' base v' (acc ++ [p]):=by
  have e:(acc ++ [p]).length=acc.length+1:=by simp
  unfold ja
  rw [e,List.map_append]
  exact hown
 obtain ⟨a',n',c',rfl,_⟩:=hO.form
 exact h _ _ _ w' hO ((hX.mono hb).grown hgrow (by have:=hX.size;omega) ho.block)
end Go.Proofs.YtpkhdihoijkamaaGreatDoor
namespace Go.Proofs.YtpkhdihoijkamaaGreatDoor.G
set_option maxRecDepth 100000
open Go.ChangeShapes Go.WideShapes Go.ChangeAt Go.RowKit Go.Deep
def takes (rs:List Rep) (up:List Bool) (e:Int) (k:Nat):Bool:=up.getD k false && ((rs.getD k ⟨0,[]⟩).f == e)
def cz (rs:List Rep) (up:List Bool) (e:Int):Nat→List Int
 | 0=>[]
 | k+1=>if takes rs up e k=true then cz rs up e k ++ [(k:Int)] else cz rs up e k
theorem memL_len (rs:List Rep) (up:List Bool) (e:Int):∀ k,(cz rs up e k).length≤k
 | 0=>Nat.le_refl _
 | k+1=>by
   have:=memL_len rs up e k
   unfold cz
   split
   ·simp;omega
   ·omega
theorem aar (rs:List Rep) (up:List Bool) (e:Int) (w:World) (h:GOK rs up) :
 Calls Tryz.prog 44 #[.agg (grV rs up).toArray,.int .i64 e] w fun r w'=>∃ a n c,r=.returned (.slice a n c)∧ja w' (w.heap.size+1) (.slice a n c) (cz rs up e 3)∧Below w.heap.size w w':=by
 obtain ⟨X,hX⟩:∃ X,X=w.alloc (.cells (grV rs up).toArray 51):=⟨_,rfl⟩
 have A0:At X w.heap.size (grV rs up) 51:=by rw [hX];exact heap_alloc_new w _
 have bX:Below w.heap.size w X:=by rw [hX];exact (Below.refl _ _).alloc (Nat.le_refl _) _
 have sX:X.heap.size=w.heap.size+1:=by rw [hX];simp
 go_enter Tryz.func44,Tryz.ntmps44
 go_wp2
 rw [←hX]
 clear hX
 go_loopw [5,7] (fun v i wr=>∃ (k:Nat) (a:Option Addr) (n c:Nat),k≤3∧i=.int .i64 k∧v=.slice a n c∧ja wr (w.heap.size+1) (.slice a n c) (cz rs up e k)∧Below (w.heap.size+1) X wr) (fun _ i _=>3 - (intOf i).toNat)
 case atStart=>exact ⟨0,.none,0,0,Nat.zero_le _,rfl,rfl,World.ownsRow_nil _ _ _ _,Below.refl _ _⟩
 case round =>
  obtain ⟨k,a,n,c,hk,rfl,rfl,ho,hb⟩:=hrel
  have HO:Hid (ja wr (w.heap.size+1) (.slice a n c) (cz rs up e k)):=ho
  have hsz:=hb.size
  have bw:Below w.heap.size w wr:=bX.trans (hb.mono (by omega))
  clear ho
  by_cases hlt:k<3
  ·have hki:(k:Int)<3:=by omega
   have hku:k<up.length:=by rw [h.upl];exact hlt
   have hkr:k<rs.length:=by rw [h.len];exact hlt
   have A1:=A0.later hb (by omega)
   have u1:wr.cell? ⟨w.heap.size,75+k,.none⟩=some (.bool up[k]):=(A1.cell _).trans (h.upc k hku)
   have f1:wr.cell? ⟨w.heap.size,k*25,.none⟩=some (.int .i64 rs[k].f):=(A1.cell _).trans (h.floor k hkr)
   have ht:takes rs up e k=(up[k] && (rs[k].f == e)):=by simp [takes,hku,hkr]
   have hml:=memL_len rs up e k
   clear A1 A0
   cases hu:up[k] with
   | false =>
     rw [hu] at u1
     have HT:Hid (takes rs up e k=false):=by show _=_;rw [ht,hu];rfl
     clear ht hu
     go_wp2
     refine ⟨⟨k+1,a,n,c,by omega,by go_num,rfl,?_,hb⟩,by simp [intOf];omega⟩
     unfold cz;rw [if_neg (by rw [HT.out];decide)];exact HO.out
   | true =>
     rw [hu] at u1
     cases hf:(rs[k].f == e) with
     | false =>
       have HT:Hid (takes rs up e k=false):=by show _=_;rw [ht,hu,hf];rfl
       clear ht hu
       go_wp2
       refine ⟨⟨k+1,a,n,c,by omega,by go_num,rfl,?_,hb⟩,by simp [intOf];omega⟩
       unfold cz;rw [if_neg (by rw [HT.out];decide)];exact HO.out
     | true =>
       have HT:Hid (takes rs up e k=true):=by show _=_;rw [ht,hu,hf];rfl
       clear ht hu
       go_wp2_with (at_builtin;refine adr rfl _ _ rfl (w.heap.size+1) (.slice a n c) (cz rs up e k) k wr (by simp [Act.eval]) (by simp [Act.eval]) HO.out (by omega) (by omega) ?_)
       intro a' n' c' w' ho' hb'
       go_wp2
       refine ⟨⟨k+1,a',n',c',by omega,by go_num,rfl,?_,hb.trans hb'⟩,by simp [intOf];omega⟩
       unfold cz;rw [if_pos HT.out];exact ho'
  ·obtain rfl:k=3:=by omega
   go_wp2
   go_ret
   exact ⟨a,n,c,rfl,HO.out,bw⟩
end Go.Proofs.YtpkhdihoijkamaaGreatDoor.G
