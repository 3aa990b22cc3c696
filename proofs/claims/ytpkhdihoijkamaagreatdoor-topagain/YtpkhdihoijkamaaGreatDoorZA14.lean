/- Several texts of this seat in one: GFen, GMid, GNew, UGrp, UKp, Owx. No statement of the seat is proved here. -/
import Derived.Test.YtpkhdihoijkamaaGreatDoorWT
import Derived.Test.YtpkhdihoijkamaaGreatDoorZA13
import Derived.Test.YtpkhdihoijkamaaGreatDoorZA01
import Derived.Deep.RegionHeld3
import Derived.Deep.DeepCutAuto
import Derived.Maps.AppendAt
set_option maxHeartbeats 8000000
set_option maxRecDepth 100000
namespace Go.Proofs.YtpkhdihoijkamaaGreatDoor.G
set_option maxRecDepth 100000
open Go.ChangeShapes Go.WideShapes Go.ChangeAt Go.RowKit Go.Deep
def fenF (f e:Int):Int:=if f=e - 1 then e else f
theorem two (w:World) (x y:Obj):∃ X,X=(w.alloc x).alloc y∧X.heap[w.heap.size]? = some x∧X.heap[w.heap.size+1]? = some y∧Below w.heap.size w X∧X.heap.size=w.heap.size+2:=by
 refine ⟨_,rfl,?_,?_,((Below.refl _ _).alloc (Nat.le_refl _) _).alloc (by simp) _,by simp⟩
 ·rw [Below.heap_alloc _ _ _ (by simp)];exact heap_alloc_new w _
 ·simpa using heap_alloc_new (w.alloc x) y
theorem jc {P:Program} {dst:Option Tmp} {T ty:TypeId} {x:Operand} {pos:String} {after:Array Edge} {gd:Option (Nat × Bool)} {a:Act} {w:World} {p v:Value}
 (law:(Instr.loadAt T p).run P w=.ok v w) (hx:a.eval x=p):(execOp a.eval ⟨dst,.load T x,ty,pos,after,gd⟩).run P w=.ok (.value v) w:=by
 unfold execOp;simp only [hx,Sem.run_bind,law,Result.andThen_ok,Sem.run_pure]
theorem ma {P:Program} {ops:Array Oper} {i:Nat} {dst:Option Tmp} {T ty:TypeId} {x y:Operand} {pos:String} {after:Array Edge} {a:Act} {w w':World} {Q:Exit→Act→World→Prop} {K:Act→World→Prop} {p v:Value}
 (law:(Instr.storeAt T p v).run P w=.ok () w') (ho:ops[i]? = some ⟨dst,.store T x y,ty,pos,after,.none⟩) (hd:dst=.none) (hx:a.eval x=p) (hy:a.eval y=v) (h:K a w'):wpOp P ops Q i K a w:=by
 unfold wpOp
 rw [ho]
 subst hd
 simp only [Region.wanted,if_true]
 refine .inl ?_
 unfold Oper.wp execOp
 simp only [hx,hy,Sem.run_bind,law,Result.andThen_ok,Sem.run_pure]
 exact h
theorem rfence_any (f:Int) (l:List Cel) (e:Int) (w:World) (hl:fo l) (he:0≤e) (he9:e≤1000000000) :
 Calls Tryz.prog 161 #[.agg (aj f l).toArray,.int .i64 e] w fun r w'=>r=.returned (.tuple #[.agg (aj (fenF f e) l).toArray,.bool (fenF f e == e)])∧Below w.heap.size w w':=by
 obtain ⟨X,hX,a0,a1,bX,sX⟩:=two w (.cells (aj f l).toArray 47) (.cells z25.toArray 47)
 have A0:At X w.heap.size (aj f l) 47:=a0
 have A1:At X (w.heap.size+1) z25 47:=a1
 have f0:X.cell? ⟨w.heap.size,0,.none⟩=some (.int .i64 f):=A0.cell 0
 have z0:X.frozen? ⟨w.heap.size,0,.none⟩=false:=(A0.there 0 1 (by rw [hl.vlen f];decide) 0 (by decide)).2
 simp only [z25] at hX
 clear a0 a1
 by_cases hf:f=e - 1
 ·have hf':(f == e - 1)=true:=by simpa using hf
  have HF:Hid (fenF f e=e):=by show _=_;simp [fenF,hf]
  clear hf
  have A0':At (X.setCell ⟨w.heap.size,0,.none⟩ (.int .i64 e)) w.heap.size (aj e l) 47:=A0.setCell_same 0 _
  have A1':At (X.setCell ⟨w.heap.size,0,.none⟩ (.int .i64 e)) (w.heap.size+1) z25 47:=A1.setCell_ne _ (by simp) _
  have bZ:Below w.heap.size w (X.setCell ⟨w.heap.size,0,.none⟩ (.int .i64 e)):=bX.setCell (Nat.le_refl _) _
  go_enter Tryz.func161,Tryz.ntmps161
  go_upto_region 1 with fail
  rw [←hX]
  clear hX
  go_wp2_with fail
  clear A0 A1 bX f0 z0
  generalize X.setCell ⟨w.heap.size,0,.none⟩ (.int .i64 e)=Z at *
  have A0:=A0'
  have A1:=A1'
  refine wp_region_held (S:=fun w'=>At w' w.heap.size (aj e l) 47) (by kernel_rfl) ?_
  have HS:Hid (At (Z.drew) w.heap.size (aj e l) 47):=A0
  have hst:(Instr.storeAt 47 (.pointer (some ⟨w.heap.size+1,0,.none⟩)) (.agg (aj e l).toArray)).run Tryz.prog Z.drew=.ok () (Z.drew.setCells (w.heap.size+1) 0 (aj e l)):=aav (X:=Z.drew) A1 rfl (hl.vlen e) (vone l e)
  have A2:=At.set (aj e l) 0 Z.drew _ A1
  rw [ik _ _ (by rw [hl.vlen e];rfl)] at A2
  have A3:=At.set_ne (show w.heap.size≠w.heap.size+1 by omega) (aj e l) 0 Z.drew A0
  have bY:=below_setCells (show w.heap.size≤w.heap.size+1 by omega) (aj e l) 0 _ bZ.drew
  refine wpT 0 (.agg (aj e l).toArray) (.inl ⟨rfl,fun w' hw'=>?_⟩) HS.out ?_
  ·exact jc (xg hw' (hl.vlen e)) rfl
  refine wpG 1 (.pointer (some ⟨w.heap.size,0,.none⟩)) HS.out ?_
  refine wpT 2 (.int .i64 (e)) (.inl ⟨rfl,fun w' hw'=>?_⟩) HS.out ?_
  ·have hc:w'.cell? ⟨w.heap.size,0,.none⟩=some (.int .i64 (e)):=At.cell hw' 0
   go_simp
  refine wpG 3 (.int .i64 e) HS.out ?_
  refine wpG 4 (.bool (e == e)) HS.out ?_
  refine wpA 5 ?_
  refine ma hst rfl rfl rfl rfl ⟨A3,?_⟩
  generalize Z.drew.setCells (w.heap.size+1) 0 (aj e l)=Y at *
  refine wpG 6 (.bool (e == e)) A3 ?_
  refine wpZ ?_
  simp [Act.put]
  have HR:Hid ((Instr.loadAt 47 (.pointer (some ⟨w.heap.size+1,0,.none⟩))).run Tryz.prog Y=.ok (.agg (aj e l).toArray) Y):=xg A2 (hl.vlen e)
  go_wp2
  refine bodyPost_ret (tq Tryz.results161 rfl HR.out) rfl ⟨by rw [HF.out];first|rfl|simp,bY⟩
 ·have hf':(f == e - 1)=false:=by simpa using hf
  have HF:Hid (fenF f e=f):=by show _=_;simp [fenF,hf]
  clear hf
  go_enter Tryz.func161,Tryz.ntmps161
  go_upto_region 1 with fail
  rw [←hX]
  clear hX
  go_wp2_with fail
  obtain ⟨Z,rfl⟩:∃ Z,Z=X:=⟨_,rfl⟩
  have bZ:=bX
  refine wp_region_held (S:=fun w'=>At w' w.heap.size (aj f l) 47) (by kernel_rfl) ?_
  have HS:Hid (At (Z.drew) w.heap.size (aj f l) 47):=A0
  have hst:(Instr.storeAt 47 (.pointer (some ⟨w.heap.size+1,0,.none⟩)) (.agg (aj f l).toArray)).run Tryz.prog Z.drew=.ok () (Z.drew.setCells (w.heap.size+1) 0 (aj f l)):=aav (X:=Z.drew) A1 rfl (hl.vlen f) (vone l f)
  have A2:=At.set (aj f l) 0 Z.drew _ A1
  rw [ik _ _ (by rw [hl.vlen f];rfl)] at A2
  have A3:=At.set_ne (show w.heap.size≠w.heap.size+1 by omega) (aj f l) 0 Z.drew A0
  have bY:=below_setCells (show w.heap.size≤w.heap.size+1 by omega) (aj f l) 0 _ bZ.drew
  refine wpT 0 (.agg (aj f l).toArray) (.inl ⟨rfl,fun w' hw'=>?_⟩) HS.out ?_
  ·exact jc (xg hw' (hl.vlen f)) rfl
  refine wpG 1 (.pointer (some ⟨w.heap.size,0,.none⟩)) HS.out ?_
  refine wpT 2 (.int .i64 (f)) (.inl ⟨rfl,fun w' hw'=>?_⟩) HS.out ?_
  ·have hc:w'.cell? ⟨w.heap.size,0,.none⟩=some (.int .i64 (f)):=At.cell hw' 0
   go_simp
  refine wpG 3 (.int .i64 e) HS.out ?_
  refine wpG 4 (.bool (f == e)) HS.out ?_
  refine wpA 5 ?_
  refine ma hst rfl rfl rfl rfl ⟨A3,?_⟩
  generalize Z.drew.setCells (w.heap.size+1) 0 (aj f l)=Y at *
  refine wpG 6 (.bool (f == e)) A3 ?_
  refine wpZ ?_
  simp [Act.put]
  have HR:Hid ((Instr.loadAt 47 (.pointer (some ⟨w.heap.size+1,0,.none⟩))).run Tryz.prog Y=.ok (.agg (aj f l).toArray) Y):=xg A2 (hl.vlen f)
  go_wp2
  refine bodyPost_ret (tq Tryz.results161 rfl HR.out) rfl ⟨by rw [HF.out];first|rfl|simp,bY⟩
set_option maxRecDepth 100000
theorem aa0:∀ (vs pre old post:List Value),old.length=vs.length→il (pre ++ (old ++ post)) pre.length vs=pre ++ (vs ++ post)
 | [],pre,old,post,h=>by have:old=[]:=List.eq_nil_of_length_eq_zero (by simpa using h);subst this;rfl
 | v :: r,pre,[],post,h=>by simp at h
 | v :: r,pre,x :: old,post,h=>by
   have ih:=aa0 r (pre ++ [v]) old post (by simpa using h)
   simp only [il]
   rw [show (pre ++ (x :: old ++ post)).set pre.length v=(pre ++ [v]) ++ (old ++ post) by simp]
   rw [show pre.length+1=(pre ++ [v]).length by simp,ih];simp
theorem ab6 (a b:List Rep):jd (a ++ b)=jd a ++ jd b:=by simp [jd]
theorem rs_split {rs:List Rep} {i:Nat} (h:i<rs.length):rs=rs.take i ++ rs[i] :: rs.drop (i+1):=by
 rw [←List.drop_eq_getElem_cons h,List.take_append_drop]
theorem grV_set {rs:List Rep} {up:List Bool} (h:GOK rs up) (i:Nat) (hi:i<rs.length) (r:Rep) (hr:fo r.l):il (grV rs up) (i*25) r.vs=grV (rs.set i r) up:=by
 have e0:=rs_split hi
 have hl:(jd (rs.take i)).length=i*25:=by
  rw [yu _ (fun x hx=>h.ok x (List.mem_of_mem_take hx)),List.length_take];omega
 have ho:rs[i].vs.length=r.vs.length:=by
  rw [show rs[i].vs.length=25 from (h.ok _ (List.getElem_mem hi)).vlen _,show r.vs.length=25 from hr.vlen _]
 have e1:grV rs up=jd (rs.take i) ++ (rs[i].vs ++ (jd (rs.drop (i+1)) ++ up.map Value.bool)):=by
  unfold grV
  conv=>lhs;rw [e0]
  rw [ab6]
  show _ ++ (rs[i].vs ++ jd _) ++ _=_
  simp
 have e2:grV (rs.set i r) up=jd (rs.take i) ++ (r.vs ++ (jd (rs.drop (i+1)) ++ up.map Value.bool)):=by
  unfold grV
  rw [List.set_eq_take_append_cons_drop,if_pos hi,ab6]
  show _ ++ (r.vs ++ jd _) ++ _=_
  simp
 rw [e1,e2,←hl]
 exact aa0 r.vs _ _ _ ho
theorem GOK.set {rs:List Rep} {up:List Bool} (h:GOK rs up) (i:Nat) {r:Rep} (hr:fo r.l):GOK (rs.set i r) up :=
 ⟨by rw [List.length_set,h.len],h.upl,fun x hx=>by
  rcases List.mem_or_eq_of_mem_set hx with hx|rfl
  ·exact h.ok x hx
  ·exact hr⟩
theorem load_one {X:World} {b:Nat} {T:TypeId} {rs:List Rep} {up:List Bool} (hA:At X b (grV rs up) T) (h:GOK rs up) (i:Nat) (hi:i<rs.length) :
 (Instr.loadAt 47 (.pointer (some ⟨b,i*25,.none⟩))).run Tryz.prog X=.ok (.agg (aj rs[i].f rs[i].l).toArray) X:=by
 obtain ⟨d,hd,hr⟩:=und26
 have hl:(aj rs[i].f rs[i].l).length=25:=(h.ok _ (List.getElem_mem hi)).vlen _
 exact run_loadAt_mid X b (i*25) _ _ d (hA.range _ _ (fun j hj=>h.rep i hi j (by omega))) hd hr (by rw [hl];exact sz26)
theorem aby {X:World} {b:Nat} {T:TypeId} {rs:List Rep} {up:List Bool} (hA:At X b (grV rs up) T) (h:GOK rs up) (i:Nat) (hi:i<rs.length) (f:Int) (l:List Cel) (hr:fo l) :
 (Instr.storeAt 47 (.pointer (some ⟨b,i*25,.none⟩)) (.agg (aj f l).toArray)).run Tryz.prog X=.ok () (X.setCells b (i*25) (aj f l))∧At (X.setCells b (i*25) (aj f l)) b (grV (rs.set i ⟨f,l⟩) up) T:=by
 have hl:=hr.vlen f
 refine ⟨run_storeAt_mid X b (i*25) _ (aj f l).toArray (by simpa [hl] using hA.there (i*25) 25 (by rw [h.vlen];have:=h.len;omega)) (by simpa [hl] using sz26) (all_oneCell_toArray (vone l f)),?_⟩
 have:=At.set (aj f l) (i*25) _ _ hA
 rwa [show aj f l=(⟨f,l⟩:Rep).vs from rfl,grV_set h i hi ⟨f,l⟩ hr] at this
set_option maxRecDepth 100000
def z78:List Value:=[.int .i64 0,.int .i64 0,.int .i64 0,.string ⟨#[]⟩,.int .i64 0,.int .i64 0,.string ⟨#[]⟩,.int .i64 0,.int .i64 0,.string ⟨#[]⟩,.int .i64 0,.int .i64 0,.string ⟨#[]⟩,.int .i64 0,.int .i64 0,.string ⟨#[]⟩,.int .i64 0,.int .i64 0,.string ⟨#[]⟩,.int .i64 0,.int .i64 0,.string ⟨#[]⟩,.int .i64 0,.int .i64 0,.string ⟨#[]⟩,.int .i64 0,.int .i64 0,.int .i64 0,.string ⟨#[]⟩,.int .i64 0,.int .i64 0,.string ⟨#[]⟩,.int .i64 0,.int .i64 0,.string ⟨#[]⟩,.int .i64 0,.int .i64 0,.string ⟨#[]⟩,.int .i64 0,.int .i64 0,.string ⟨#[]⟩,.int .i64 0,.int .i64 0,.string ⟨#[]⟩,.int .i64 0,.int .i64 0,.string ⟨#[]⟩,.int .i64 0,.int .i64 0,.string ⟨#[]⟩,.int .i64 0,.int .i64 0,.int .i64 0,.string ⟨#[]⟩,.int .i64 0,.int .i64 0,.string ⟨#[]⟩,.int .i64 0,.int .i64 0,.string ⟨#[]⟩,.int .i64 0,.int .i64 0,.string ⟨#[]⟩,.int .i64 0,.int .i64 0,.string ⟨#[]⟩,.int .i64 0,.int .i64 0,.string ⟨#[]⟩,.int .i64 0,.int .i64 0,.string ⟨#[]⟩,.int .i64 0,.int .i64 0,.string ⟨#[]⟩,.bool false,.bool false,.bool false]
theorem zero78 (w:World):(zeroValue 51).run Tryz.prog w=.ok (.agg z78.toArray) w:=by kernel_rfl
def newR:Nat→List Rep
 | 0=>[⟨0,mr⟩,⟨0,mr⟩,⟨0,mr⟩]
 | k+1=>(newR k).set k ⟨1,mr⟩
def newU:Nat→List Bool
 | 0=>[false,false,false]
 | k+1=>(newU k).set k true
theorem yh:∀ k,GOK (newR k) (newU k)
 | 0=>⟨rfl,rfl,fun r hr=>by simp [newR] at hr;subst hr;exact aah⟩
 | k+1=>by
   have ih:=yh k
   exact ⟨by simp [newR,ih.len],by simp [newU,ih.upl],(GOK.set ih k (r:=⟨1,mr⟩) aah).ok⟩
theorem grV_up {rs:List Rep} {up:List Bool} (h:GOK rs up) (k:Nat) (b:Bool):(grV rs up).set (75+k) (.bool b)=grV rs (up.set k b):=by
 unfold grV
 have hl:(jd rs).length=75:=by rw [yu rs h.ok,h.len]
 rw [List.set_append_right _ _ (by omega),hl,show 75+k - 75=k by omega,List.map_set]
theorem GOK.up {rs:List Rep} {up:List Bool} (h:GOK rs up) (k:Nat) (b:Bool):GOK rs (up.set k b):=⟨h.len,by rw [List.length_set,h.upl],h.ok⟩
theorem gnew_any (w:World):Calls Tryz.prog 65 #[] w fun r w'=>r=.returned (.agg (grV (newR 3) (newU 3)).toArray)∧Below w.heap.size w w':=by
 obtain ⟨X,hX,a0,a1,bX,sX⟩:=two w (.cells z78.toArray 51) (.cells z78.toArray 51)
 have A0:At X w.heap.size z78 51:=a0
 have A1:At X (w.heap.size+1) (grV (newR 0) (newU 0)) 51:=a1
 have hz:=zero78
 clear a0 a1
 go_enter Tryz.func65,Tryz.ntmps65
 go_wp2
 rw [←hX]
 clear hX
 go_loopw [3] (fun i wr=>∃ k:Nat,k≤3∧i=.int .i64 k∧At wr w.heap.size z78 51∧At wr (w.heap.size+1) (grV (newR k) (newU k)) 51∧Below w.heap.size w wr) (fun i _=>3 - (intOf i).toNat)
 case atStart=>exact ⟨0,Nat.zero_le _,rfl,A0,A1,bX⟩
 case round =>
  obtain ⟨k,hk,rfl,B0,B1,bw⟩:=hrel
  clear A0 A1
  by_cases hlt:k<3
  ·have hki:(k:Int)<3:=by omega
   go_wp2_with fail
   refine (new_any wr).mono ?_
   rintro r W1 ⟨rfl,hb1⟩
   replace B0:=B0.later hb1 B0.lt
   replace B1:=B1.later hb1 B1.lt
   replace bw:=bw.trans (hb1.mono bw.size)
   clear hb1
   obtain ⟨hst,B2⟩:=aby B1 (yh k) k (by rw [(yh k).len];exact hlt) 1 mr aah
   have B3:=At.set_ne (show w.heap.size≠w.heap.size+1 by omega) (aj 1 mr) (k*25) _ B0
   have b2:=below_setCells (show w.heap.size≤w.heap.size+1 by omega) (aj 1 mr) (k*25) _ bw
   generalize W1.setCells (w.heap.size+1) (k*25) (aj 1 mr)=W2 at *
   have HS:Hid ((Instr.storeAt 47 (.pointer (some ⟨w.heap.size+1,k*25,.none⟩)) (.agg (aj 1 mr).toArray)).run Tryz.prog W1=.ok () W2):=hst
   have hG:GOK ((newR k).set k ⟨1,mr⟩) (newU k):=(yh k).set k (r:=⟨1,mr⟩) aah
   have u1:=(B2.cell (75+k)).trans (hG.upc k (by rw [(yh k).upl];exact hlt))
   have z1:W2.frozen? ⟨w.heap.size+1,75+k,.none⟩=false:=(B2.there (75+k) 1 (by rw [hG.vlen];omega) 0 (by decide)).2
   have B4:=B2.setCell_same (75+k) (.bool true)
   rw [grV_up hG] at B4
   have B5:=B3.setCell_ne ⟨w.heap.size+1,75+k,.none⟩ (by simp) (.bool true)
   have b5:=b2.setCell (p:=⟨w.heap.size+1,75+k,.none⟩) (by simp) (.bool true)
   clear hst B0 B1 B2 B3 bw
   go_wp2_with (with_reducible refine cu HS.out rfl rfl ?_)
   exact ⟨⟨k+1,by omega,by go_num,B5,B4,b5⟩,by simp [intOf];omega⟩
  ·obtain rfl:k=3:=by omega
   have HL:Hid ((Instr.loadAt 51 (.pointer (some ⟨w.heap.size+1,0,.none⟩))).run Tryz.prog wr=.ok (.agg (grV (newR 3) (newU 3)).toArray) wr):=gz B1 (yh 3).vlen
   have hst:=uf B0 rfl (yh 3).vlen (tu _ _)
   have B2:=At.set (grV (newR 3) (newU 3)) 0 _ _ B0
   rw [ik _ _ (by rw [(yh 3).vlen];rfl)] at B2
   have b2:=below_setCells (Nat.le_refl w.heap.size) (grV (newR 3) (newU 3)) 0 _ bw
   generalize wr.setCells w.heap.size 0 (grV (newR 3) (newU 3))=Y at *
   have HS:Hid ((Instr.storeAt 51 (.pointer (some ⟨w.heap.size,0,.none⟩)) (.agg (grV (newR 3) (newU 3)).toArray)).run Tryz.prog wr=.ok () Y):=hst
   have HR:Hid ((Instr.loadAt 51 (.pointer (some ⟨w.heap.size,0,.none⟩))).run Tryz.prog Y=.ok (.agg (grV (newR 3) (newU 3)).toArray) Y):=gz B2 (yh 3).vlen
   clear hst B0 B1 B2
   go_wp2_with (first|(with_reducible refine ak HL.out rfl rfl ?_)|(with_reducible refine cu HS.out rfl rfl ?_))
   refine bodyPost_ret (zg Tryz.results65 rfl HR.out) rfl ⟨rfl,b2⟩
end Go.Proofs.YtpkhdihoijkamaaGreatDoor.G
namespace Go.Proofs.YtpkhdihoijkamaaGreatDoor.U
open Go.ChangeShapes Go.WideShapes Go.ChangeAt Go.RowKit Go.Deep
open Go.Proofs.YtpkhdihoijkamaaGreatDoor.D
theorem zc78:Tryz.zeroCells51=G.z78.toArray:=by kernel_rfl
attribute [local go_sem] zc78
theorem load_tg {X:World} {t k:Nat} {T:TypeId} {gs bs:List Value} {fly wts dn:Value} {nm:Int} (A:At X t (tgV k gs bs fly wts dn nm) T) (h:xn gs bs) :
 (Instr.loadAt 51 (.pointer (some ⟨t,1,.none⟩))).run Tryz.prog X=.ok (.agg gs.toArray) X:=by
 obtain ⟨d,hd,hr⟩:=G.und38
 exact run_loadAt_mid X t 1 _ gs d (fun j v hj=>by rw [A.cell,tgV_g h _ _ _ _ _ (by have:=(List.getElem?_eq_some_iff.1 hj).1;have:=h.g;omega)];exact hj) hd hr (by rw [h.g];exact G.sz38)
theorem aal {w:World} {t k:Nat} {rs:List G.Rep} {up:List Bool} {bs:List Value} {fly wts dn:Value} {nm:Int} (A:At w t (tgV k (G.grV rs up) bs fly wts dn nm) 107) (h:xn (G.grV rs up) bs) :
 Calls Tryz.prog 23 #[.pointer (some ⟨t,0,.none⟩)] w fun r w'=>r=.returned (.agg (G.grV rs up).toArray)∧Below w.heap.size w w':=by
 obtain ⟨X,hX,a1,bX,sX⟩:=D.one w (.cells G.z78.toArray 51)
 have A1:G.At X w.heap.size G.z78 51:=a1
 have HLD:Hid ((Instr.loadAt 51 (.pointer (some ⟨t,1,.none⟩))).run Tryz.prog X=.ok (.agg (G.grV rs up).toArray) X):=load_tg (A.later bX A.lt) h
 have hst:=G.uf A1 rfl h.g (fun v hv=>G.tu rs up v hv)
 obtain ⟨V,hV⟩:∃ V,V=X.setCells w.heap.size 0 (G.grV rs up):=⟨_,rfl⟩
 rw [←hV] at hst
 have HST:Hid ((Instr.storeAt 51 (.pointer (some ⟨w.heap.size,0,.none⟩)) (.agg (G.grV rs up).toArray)).run Tryz.prog X=.ok () V):=hst
 have A2:G.At V w.heap.size (G.grV rs up) 51:=by
  rw [hV]
  have:=G.At.set (G.grV rs up) 0 _ _ A1
  rwa [G.ik _ _ (by rw [h.g];rfl)] at this
 have HBV:Hid (Below w.heap.size w V):=by rw [hV];exact below_setCells (Nat.le_refl _) _ 0 _ bX
 have HRS:Hid ((Instr.loadAt 51 (.pointer (some ⟨w.heap.size,0,.none⟩))).run Tryz.prog V=.ok (.agg (G.grV rs up).toArray) V):=G.gz A2 h.g
 clear A a1 A1 bX sX hst hV A2
 have hz:=G.zero78
 go_enter Tryz.func23,Tryz.ntmps23
 go_upto_region 1 with fail
 rw [←hX]
 clear hX
 go_wp2_with (first|with_reducible refine ak HLD.out rfl rfl ?_|with_reducible refine cu HST.out rfl rfl ?_)
 exact bodyPost_ret (zg Tryz.results23 rfl HRS.out) rfl ⟨rfl,HBV.out⟩
theorem tgV_up {rs:List G.Rep} {up bs:_} (ok:G.GOK rs up) (k:Nat) (fly wts dn:Value) (nm:Int) (i:Nat) (hi:i<3) (b:Bool) :
 (tgV k (G.grV rs up) bs fly wts dn nm).set (76+i) (.bool b)=tgV k (G.grV rs (up.set i b)) bs fly wts dn nm:=by
 have hl:(G.jd rs).length=75:=by rw [G.yu rs ok.ok,ok.len]
 have hu:=ok.upl
 unfold tgV G.grV
 rw [show 76+i=(75+i)+1 by omega,List.set_cons_succ,List.set_append_left _ _ (by simp [hl,hu];omega),List.set_append_right _ _ (by omega),hl,show 75+i - 75=i by omega,List.map_set]
theorem upT_any {w:World} {t k:Nat} {rs:List G.Rep} {up:List Bool} {bs:List Value} {fly wts dn:Value} {nm:Int} (A:At w t (tgV k (G.grV rs up) bs fly wts dn nm) 107) (h:xn (G.grV rs up) bs) (ok:G.GOK rs up) (i:Int) (b:Bool) :
 Calls Tryz.prog 38 #[.pointer (some ⟨t,0,.none⟩),.int .i64 i,.bool b] w fun r w' =>
  if 0≤i∧i<3 then r=.returned .nilIface∧At w' t (tgV k (G.grV rs (up.set i.toNat b)) bs fly wts dn nm) 107∧ae (Is t) (Is t) w w'
  else r=.returned (ai 8)∧w'=w:=by
 have HIG:Hid (Calls Tryz.prog 74 #[.int .i64 i] w fun r w'=>r=.returned (.bool (decide (0≤i) && decide (i<3)))∧w'=w):=inGroup_any i w
 by_cases hi:0≤i∧i<3
 case neg =>
  rw [show (decide (0≤i) && decide (i<3))=false by simp;omega] at HIG
  simp only [if_neg hi]
  clear hi A h ok
  go_enter Tryz.func38,Tryz.ntmps38
  go_wp2_with fail
  refine HIG.out.mono ?_
  rintro r W ⟨rfl,rfl⟩
  go_wp2
  go_ret
  exact ⟨rfl,rfl⟩
 rw [show (decide (0≤i) && decide (i<3))=true by simp;omega] at HIG
 simp only [if_pos hi]
 obtain ⟨j,rfl⟩:∃ j:Nat,i=j:=⟨i.toNat,by omega⟩
 have hj:j<3:=by omega
 have hlen:(tgV k (G.grV rs up) bs fly wts dn nm).length=87:=by have:=h.g;have:=h.b;simp [tgV];omega
 have HP:Hid (At (w.setCell ⟨t,76+j,.none⟩ (.bool b)) t (tgV k (G.grV rs (up.set j b)) bs fly wts dn nm) 107∧ae (Is t) (Is t) w (w.setCell ⟨t,76+j,.none⟩ (.bool b))):=⟨by rw [←tgV_up ok k fly wts dn nm j hj b];exact A.setCell_same _ _,(ae.refl _ _).one_set _ _⟩
 have f0:w.frozen? ⟨t,76+j,.none⟩=false:=(A.there (76+j) 1 (by omega) 0 (by decide)).2
 have cc:w.cell? ⟨t,76+j,.none⟩=some (.bool (up.getD j false)):=by
  have hl:(G.jd rs).length=75:=by rw [G.yu rs ok.ok,ok.len]
  have hu:=ok.upl
  rw [A.cell,show 76+j=1+(75+j) by omega,tgV_g h _ _ _ _ _ (by omega)]
  unfold G.grV
  rw [List.getElem?_append_right (by omega),hl,show 75+j - 75=j by omega]
  simp [List.getD,hu,hj]
 clear A h ok hi hlen
 have hj':(j:Int)<3:=by omega
 go_enter Tryz.func38,Tryz.ntmps38
 go_wp2_with fail
 refine HIG.out.mono ?_
 rintro r W ⟨rfl,rfl⟩
 clear HIG
 go_wp2
 go_ret
 exact ⟨rfl,HP.out⟩
end Go.Proofs.YtpkhdihoijkamaaGreatDoor.U
namespace Go.Proofs.YtpkhdihoijkamaaGreatDoor.U
open Go.ChangeShapes Go.WideShapes Go.ChangeAt Go.RowKit Go.Deep
open Go.Proofs.YtpkhdihoijkamaaGreatDoor.D
structure KK (w:World) (k b n:Nat) (e:Int) (s:KS) (a:Option Addr) (c:Nat) (D:DM) (P:DP):Prop where
 d:DAt w b n D P
 kp:KpAt w k b e s a c
 lr:∀ p,a=some p→s.l.length≠0→¬DF P b p.block∧p.block≠k
 ap:¬DF P b k
section
variable {w w':World} {k b n:Nat} {e:Int} {s:KS} {a:Option Addr} {c:Nat} {D D':DM} {P P':DP}
theorem KK.later (h:KK w k b n e s a c D P) (hb:Below w.heap.size w w'):KK w' k b n e s a c D P :=
 ⟨h.d.later hb (Nat.le_refl _),h.kp.later hb,h.lr,h.ap⟩
theorem KK.disk (h:KK w k b n e s a c D P) (hd:DAt w' b n D' P') (hm:ae (DF P b) (DF P' b) w w'):KK w' k b n e s a c D' P' :=
 ⟨hd,h.kp.moved hm h.ap (fun p hp h0=>(h.lr p hp h0).1),fun p hp h0=>⟨hm.not (yo h.kp.row h0 p hp) (h.lr p hp h0).1,(h.lr p hp h0).2⟩,hm.not h.kp.hd.lt h.ap⟩
theorem KK.foot (h:KK w k b n e s a c D P):∀ q,KF P b k a s q→q<w.heap.size:=by
 rintro q (hq|rfl|⟨p,hp,h0,rfl⟩)
 ·exact h.d.foot q hq
 ·exact h.kp.hd.lt
 ·exact yo h.kp.row h0 p hp
theorem KK.moved {F F':Nat→Prop} (h:KK w k b n e s a c D P) (hm:ae F F' w w') (hf:∀ q,F q→¬KF P b k a s q):KK w' k b n e s a c D P :=
 ⟨h.d.moved hm (fun q f e=>hf q f (.inl e)),h.kp.moved hm (fun f=>hf k f (.inr (.inl rfl))) (fun p hp h0 f=>hf _ f (.inr (.inr ⟨p,hp,h0,rfl⟩))),h.lr,h.ap⟩
end
theorem keepT_any {w:World} {k b n:Nat} {e:Int} {s:KS} {a:Option Addr} {c:Nat} {D:DM} {P:DP} (h:KK w k b n e s a c D P) (hL:K.Laid w) (e2:Int) (s2:KS) (a2:Option Addr) (c2:Nat) (hr2:Go.Proofs.YtpkhdihoijkamaaGreatDoor.Row w a2 s2.l.length s2.l) (hd2:∀ p,a2=some p→s2.l.length≠0→¬DF P b p.block) (hn2:s2.l.length≤1000000) :
 Calls Tryz.prog 99 #[.pointer (some ⟨k,0,.none⟩),.int .i64 e2,.agg (s2.vs a2 c2).toArray] w fun r w'=>r=.returned (ai (keepF D n e2 s2))∧∃ P' a3 c3,KK w' k b n (uu D n e s e2 s2).1 (uu D n e s e2 s2).2 a3 c3 (keepD D n e2 s2) P'∧ae (KF P b k a s) (KF P' b k a3 (uu D n e s e2 s2).2) w w':=by
 obtain ⟨X,hX,a0,bX,sX⟩:=Go.Proofs.YtpkhdihoijkamaaGreatDoor.D.one w (.cells (s2.vs a2 c2).toArray 36)
 have A5:At X w.heap.size (s2.vs a2 c2) 36:=a0
 have HK:Hid (KK X k b n e s a c D P):=h.later bX
 have HL:Hid (K.Laid w):=hL
 have HBX:Hid (Below w.heap.size w X):=bX
 have HD2:Hid (∀ p,a2=some p→s2.l.length≠0→¬DF P b p.block):=hd2
 have HR2:Hid (Go.Proofs.YtpkhdihoijkamaaGreatDoor.Row w a2 s2.l.length s2.l):=hr2
 have hne:w.heap.size≠k:=fun e=>by have:=h.kp.hd.lt;omega
 have hnd:¬DF P b w.heap.size:=fun e=>by have:=h.d.foot _ e;omega
 have HIE:Hid (∀ W,Calls Tryz.prog 125 #[.int .i64 e2] W fun r w'=>r=.returned (.bool (decide (okE e2)))∧w'=W):=fun W=>by
  have:=isEpoch_any e2 W
  rw [show (decide (1≤e2) && decide (e2≤1000000))=decide (okE e2) from by rw [Bool.eq_iff_iff];simp only [Bool.and_eq_true,decide_eq_true_eq];exact Iff.rfl] at this
  exact this
 have HNE:Hid (w.heap.size≠k∧¬DF P b w.heap.size):=⟨hne,hnd⟩
 have HMX:Hid (ae (KF P b k a s) (KF P b k a s) w X):=ae.of bX (Nat.le_refl _)
 clear a0 bX h hL hr2 hne hnd hd2
 by_cases hoe:okE e2
 case neg =>
  have HF:Hid (keepF D n e2 s2=1):=by show _=_;simp only [keepF,if_neg hoe]
  have HD:Hid (keepD D n e2 s2=D):=by show _=_;unfold keepD;rw [if_neg (fun h=>hoe h.1)]
  have HS:Hid (uu D n e s e2 s2=(e,s)):=by show _=_;unfold uu;rw [HF.out,if_neg (by decide)]
  have hdec:decide (okE e2)=false:=by simpa using hoe
  rw [hdec] at HIE
  clear hoe hdec
  go_enter Tryz.func99,Tryz.ntmps99
  go_upto_region 1 with fail
  rw [←hX]
  clear hX
  go_wp2_with fail
  refine (HIE.out _).mono ?_
  rintro r W1 ⟨rfl,rfl⟩
  go_wp2
  go_ret
  exact ⟨by rw [HF.out];rfl,P,a,c,by rw [HS.out,HD.out];exact HK.out,by rw [HS.out];exact HMX.out⟩
 have hdec:decide (okE e2)=true:=by simpa using hoe
 rw [hdec] at HIE
 have HOE:Hid (okE e2):=hoe
 clear hdec
 have hrX:Go.Proofs.YtpkhdihoijkamaaGreatDoor.Row X a2 s2.l.length s2.l:=HR2.out.later HBX.out
 have HLS:Hid ((Instr.loadAt 36 (.pointer (some ⟨w.heap.size,0,.none⟩))).run Tryz.prog X=.ok (.agg (s2.vs a2 c2).toArray) X):=jk A5
 have HCK:Hid (Calls Tryz.prog 126 #[.agg (s2.vs a2 c2).toArray] X fun r w'=>r=.returned (ai s2.f)∧Below X.heap.size X w'):=Go.Proofs.YtpkhdihoijkamaaGreatDoor.aas s2.g s2.t s2.hd a2 s2.l.length c2 s2.y s2.l X hrX
 by_cases hf:s2.f=0
 case neg =>
  have HF:Hid (keepF D n e2 s2=s2.f):=by show _=_;simp only [keepF,if_pos hoe,if_neg hf]
  have HD:Hid (keepD D n e2 s2=D):=by show _=_;unfold keepD;rw [if_neg (fun h=>hf h.2)]
  have HS:Hid (uu D n e s e2 s2=(e,s)):=by show _=_;unfold uu;rw [HF.out,if_neg hf]
  have HE:Hid (ai s2.f=.iface 96 (.int .i64 s2.f)):=by show _=_;simp [ai,hf]
  rw [HE.out] at HCK
  obtain ⟨ff,hff⟩:∃ ff,s2.f=ff:=⟨_,rfl⟩
  rw [hff] at HCK HF HE
  clear hoe hf hff
  go_enter Tryz.func99,Tryz.ntmps99
  go_upto_region 1 with fail
  rw [←hX]
  clear hX
  go_wp2_with fail
  refine (HIE.out _).mono ?_
  rintro r W1 ⟨rfl,rfl⟩
  go_wp2_with (with_reducible refine ak HLS.out rfl rfl ?_)
  refine HCK.out.mono ?_
  rintro r W2 ⟨rfl,b1⟩
  have HK2:Hid (KK W2 k b n e s a c D P):=HK.out.later b1
  have HM2:Hid (ae (KF P b k a s) (KF P b k a s) w W2):=HMX.out.trans (ae.of b1 (Nat.le_refl _))
  clear b1
  go_wp2
  go_ret
  exact ⟨by rw [HF.out,HE.out];rfl,P,a,c,by rw [HS.out,HD.out];exact HK2.out,by rw [HS.out];exact HM2.out⟩
 have HS2:Hid (s2.f=0):=hf
 rw [hf,show ai 0=.nilIface from rfl] at HCK
 have HF:Hid (keepF D n e2 s2=qc D n (df e2 s2)):=by show _=_;simp only [keepF,if_pos hoe,if_pos hf]
 have HD:Hid (keepD D n e2 s2=lw D n (df e2 s2)):=by show _=_;unfold keepD;rw [if_pos ⟨hoe,hf⟩]
 clear hoe hf
 go_enter Tryz.func99,Tryz.ntmps99
 go_upto_region 1 with fail
 rw [←hX]
 clear hX
 go_wp2_with fail
 refine (HIE.out _).mono ?_
 rintro r W1 ⟨rfl,rfl⟩
 go_wp2_with (with_reducible refine ak HLS.out rfl rfl ?_)
 refine HCK.out.mono ?_
 rintro r W2 ⟨rfl,b1⟩
 have HK2:Hid (KK W2 k b n e s a c D P):=HK.out.later b1
 have HM2:Hid (ae (KF P b k a s) (KF P b k a s) w W2.drew):=HMX.out.trans (ae.of b1.drew (Nat.le_refl _))
 replace A5:=A5.later b1 A5.lt
 have HB2:Hid (Below w.heap.size w W2.drew):=HBX.out.trans (b1.drew.mono HBX.out.size)
 clear b1 HCK HLS HIE HK hrX HMX HBX
 go_upto_region 6 with fail
 obtain ⟨b5,hb5⟩:∃ b5,w.heap.size=b5:=⟨_,rfl⟩
 rw [hb5] at A5 HNE ⊢
 clear hb5
 refine wp_region_held (S:=fun w'=>At w' k (kpV b e s a c) 154∧At w' b5 (s2.vs a2 c2) 36) (by kernel_rfl) ?_
 have HSS:Hid (At W2.drew k (kpV b e s a c) 154∧At W2.drew b5 (s2.vs a2 c2) 36):=⟨HK2.out.kp.hd,A5⟩
 have HK3:Hid (KK W2.drew k b n e s a c D P):=HK2.out.later ((Below.refl _ _).drew)
 clear HK2 A5
 refine wpG 0 (.pointer (some ⟨k,0,.none⟩)) HSS.out ?_
 refine wpG 1 (.pointer (some ⟨k,0,.none⟩)) HSS.out ?_
 refine wpG 2 (.pointer (some ⟨k,0,.none⟩)) HSS.out ?_
 (try simp [Act.put])
 refine wpT 3 (.pointer (some ⟨b,0,.none⟩)) (.inl ⟨rfl,fun w' hw'=>?_⟩) HSS.out ?_
 ·have hc:w'.cell? ⟨k,0,.none⟩=some (.pointer (some ⟨b,0,.none⟩)):=hw'.1.cell 0;go_simp
 refine wpG 4 (.int .i64 e2) HSS.out ?_
 refine wpT 5 (.agg (s2.vs a2 c2).toArray) (.inl ⟨rfl,fun w' hw'=>?_⟩) HSS.out ?_
 ·exact jc (jk hw'.2) rfl
 (try simp [Act.put])
 have hst:=store_any HK3.out.d e2 (by have:=HOE.out.1;omega) HOE.out.2 s2 HS2.out a2 c2 (HL.out.later HB2.out) (HR2.out.later HB2.out)
 have HSTO:Hid (Calls Tryz.prog 96 #[.pointer (some ⟨b,0,.none⟩),.int .i64 e2,.agg (s2.vs a2 c2).toArray] W2.drew fun r w'=>r=.returned (ai (qc D n (df e2 s2)))∧∃ P',DAt w' b n (lw D n (df e2 s2)) P'∧ae (DF P b) (DF P' b) W2.drew w'):=hst
 clear hst
 refine wpA 6 (wpS ?_)
 go_wp2_with fail
 refine HSTO.out.mono ?_
 rintro r Y ⟨rfl,P2,hd,hm⟩
 have HR4:Hid (Go.Proofs.YtpkhdihoijkamaaGreatDoor.Row Y a2 s2.l.length s2.l):=xc (HR2.out.later HB2.out) hm (fun p hp h0=>HD2.out p hp h0)
 have HK4:Hid (KK Y k b n e s a c (lw D n (df e2 s2)) P2):=HK3.out.disk hd hm
 have HS4:Hid (At Y k (kpV b e s a c) 154∧At Y b5 (s2.vs a2 c2) 36):=⟨HK4.out.kp.hd,hm.at HSS.out.2 HNE.out.2⟩
 have hnd:¬DF P2 b b5:=hm.not HSS.out.2.lt HNE.out.2
 have HM4:Hid (ae (KF P b k a s) (KF P2 b k a s) w Y):=HM2.out.trans (hm.mono (fun q e=>.inl e) (fun q hq=>by
  rcases hq with e|e|e
  ·exact .inr (.inl e)
  ·exact .inl (.inr (.inl e))
  ·exact .inl (.inr (.inr e))))
 clear hd hm HSTO HSS HK3 HM2
 refine ⟨HS4.out,?_⟩
 by_cases hsf:qc D n (df e2 s2)=0
 case neg =>
  have HE:Hid (ai (qc D n (df e2 s2))=.iface 96 (.int .i64 (qc D n (df e2 s2)))):=by show _=_;simp [ai,hsf]
  have HS:Hid (uu D n e s e2 s2=(e,s)):=by show _=_;unfold uu;rw [HF.out,if_neg hsf]
  rw [HE.out]
  obtain ⟨ff,hff⟩:∃ ff,qc D n (df e2 s2)=ff:=⟨_,rfl⟩
  rw [hff] at HE HF ⊢
  clear hsf hff
  (try simp [Act.put])
  refine wpG 7 (.iface 96 (.int .i64 ff)) HS4.out ?_
  refine wpZ ?_
  (try simp [Act.put])
  clear HS4
  go_wp2
  go_ret
  exact ⟨by rw [HF.out,HE.out];rfl,P2,a,c,by rw [HS.out,HD.out];exact HK4.out,by rw [HS.out];exact HM4.out⟩
 have HS:Hid (uu D n e s e2 s2=(e2,s2)):=by show _=_;unfold uu;rw [HF.out,if_pos hsf]
 rw [hsf,show ai 0=.nilIface from rfl]
 rw [hsf] at HF
 clear hsf
 (try simp [Act.put])
 refine wpG 7 (.nilIface) HS4.out ?_
 refine wpZ ?_
 (try simp [Act.put])
 have HL5:Hid ((Instr.loadAt 36 (.pointer (some ⟨b5,0,.none⟩))).run Tryz.prog Y=.ok (.agg (s2.vs a2 c2).toArray) Y):=jk HS4.out.2
 go_wp2_with (with_reducible refine ak HL5.out rfl rfl ?_)
 refine (kclone_any s2 a2 c2 Y (HR4.out) hn2).mono ?_
 rintro r V ⟨a3,c3,rfl,hr3,hq,b1⟩
 have hq':=hq
 have HK5:Hid (KK V k b n e s a c (lw D n (df e2 s2)) P2):=HK4.out.later b1
 have h1V:=b1.size
 have hAk:=HK5.out.kp.hd
 have A1:=hAk.setCell_same 1 (.int .i64 e2)
 have c1:V.cell? ⟨k,1,.none⟩=some (.int .i64 e):=hAk.cell 1
 have f1:V.frozen? ⟨k,1,.none⟩=false:=(hAk.there 1 1 (by simp [kpV,KS.vs]) 0 (by decide)).2
 have hst:=adh (o:=2) s2 a3 c3 A1 (by simp [kpV,KS.vs])
 have A2:=At.set (s2.vs a3 c3) 2 _ _ A1
 rw [kp_store] at A2
 have hm:ae (Is k) (Is k) V ((V.setCell ⟨k,1,.none⟩ (.int .i64 e2)).setCells k 2 (s2.vs a3 c3)):=ae.sets (show Is k k from rfl) _ _ _ ((ae.refl _ _).one_set 1 _)
 have hkY:=HK4.out.kp.hd.lt
 have hm6:ae (KF P2 b k a s) (KF P2 b k a s) Y ((V.setCell ⟨k,1,.none⟩ (.int .i64 e2)).setCells k 2 (s2.vs a3 c3)):=(ae.of b1 (Nat.le_refl _)).trans (hm.mono (fun q e=>.inr (.inl e)) (fun q e=>.inl e))
 have HM6:Hid (ae (KF P b k a s) (KF P2 b k a3 s2) w ((V.setCell ⟨k,1,.none⟩ (.int .i64 e2)).setCells k 2 (s2.vs a3 c3))):=HM4.out.trans (hm6.mono (fun q e=>e) (fun q hq=>by
  rcases hq with e|e|⟨p,hp,_,e⟩
  ·exact .inl (.inl e)
  ·exact .inl (.inr (.inl e))
  ·exact .inr (.inr (by rw [←e];exact (hq' p hp).1))))
 have HK6:Hid (KK ((V.setCell ⟨k,1,.none⟩ (.int .i64 e2)).setCells k 2 (s2.vs a3 c3)) k b n e2 s2 a3 c3 (lw D n (df e2 s2)) P2) :=
  ⟨HK5.out.d.moved hm (fun q hq=>by rw [show q=k from hq];exact HK5.out.ap),⟨A2,xc hr3 hm (fun p hp _ e=>by have:=(hq p hp).1;have:p.block=k:=e;omega),HS2.out,HOE.out.1,HOE.out.2⟩,fun p hp h0=>⟨fun hd=>by have:=HK4.out.d.foot _ hd;have:=(hq p hp).1;omega,fun e=>by have:=(hq p hp).1;omega⟩,HK5.out.ap⟩
 have HST:Hid ((Instr.storeAt 36 (.pointer (some ⟨k,2,.none⟩)) (.agg (s2.vs a3 c3).toArray)).run Tryz.prog (V.setCell ⟨k,1,.none⟩ (.int .i64 e2))=.ok () ((V.setCell ⟨k,1,.none⟩ (.int .i64 e2)).setCells k 2 (s2.vs a3 c3))):=hst
 clear hAk A1 hst A2 hm HK5 HK4 HL5 HS4 hr3 hq b1 hq' hm6 HM4
 go_wp2_with (with_reducible refine cu HST.out rfl rfl ?_)
 go_ret
 exact ⟨by rw [HF.out];rfl,P2,a3,c3,by rw [HS.out,HD.out];exact HK6.out,by rw [HS.out];exact HM6.out⟩
end Go.Proofs.YtpkhdihoijkamaaGreatDoor.U
namespace Go.Proofs.YtpkhdihoijkamaaGreatDoor.D
open Go.ChangeShapes Go.WideShapes Go.ChangeAt Go.RowKit Go.Deep
def ObX (v:Value):Nat→Prop:=fun k=>v.ownBlock=some k
theorem ObX.nil (k:Nat):¬ObX (.slice .none 0 0) k:=fun h=>by cases h
def ek (T:TypeId) (size:Nat) (w:World) (v:Value) (n:Nat) (xs:List Value):Prop:=w.ownsRow 0 T size v n xs
section
variable {T:TypeId} {size n:Nat} {w w':World} {v:Value} {xs:List Value}
theorem ek.kept (h:ek T size w v n xs) (hk:∀ k,ObX v k→w'.heap[k]? = w.heap[k]?):ek T size w' v n xs:=by
 refine ⟨h.1,?_⟩
 rcases h.2 with h0|⟨g,cap,cur,e,h1,hg,h2⟩
 ·exact .inl h0
 ·exact .inr ⟨g,cap,cur,e,h1,by rw [hk g (by rw [e];rfl)];exact hg,h2⟩
theorem ek.lt (h:ek T size w v n xs) {k:Nat} (hk:ObX v k):k<w.heap.size:=by
 rcases h.2 with ⟨rfl,_⟩|⟨g,cap,cur,rfl,h1,hg,h2⟩
 ·cases hk
 ·simp [ObX,Value.ownBlock] at hk;subst hk;exact (Array.getElem?_eq_some_iff.1 hg).1
theorem ek.later {B:Nat} (h:ek T size w v n xs) (hb:Below B w w') (hB:w.heap.size≤B):ek T size w' v n xs :=
 h.kept fun k hk=>hb.block k (by have:=h.lt hk;omega)
theorem ek.moved {F F':Nat→Prop} (h:ek T size w v n xs) (hm:ae F F' w w') (hd:∀ k,ObX v k→¬F k):ek T size w' v n xs :=
 h.kept fun k hk=>hm.block k (h.lt hk) (hd k hk)
theorem ek.one (h:ek T size w v n xs):v.cells=#[v]∧v.oneCell'=true:=by
 rcases h.2 with ⟨rfl,_⟩|⟨g,cap,cur,rfl,h1,hg,h2⟩
 ·exact ⟨rfl,rfl⟩
 ·exact ⟨rfl,rfl⟩
theorem ek.nil (T:TypeId) (size:Nat) (w:World):ek T size w (.slice .none 0 0) 0 []:=⟨by simp,.inl ⟨rfl,rfl⟩⟩
theorem ek.some (h:ek T size w v n xs) (hn:0<n):∃ g cap cur,v=.slice (Option.some ⟨g,0,.none⟩) n cap∧w.heap[g]? = Option.some (.cells cur T (0,0))∧n≤cap∧cap≤maxLen∧cur.size=cap*size∧cur.toList.take (n*size)=xs:=by
 rcases h.2 with ⟨_,h0⟩|⟨g,cap,cur,e,_,h2⟩
 ·omega
 ·exact ⟨g,cap,cur,e,h2⟩
theorem ek.form (h:ek T size w v n xs):∃ a cap,v=.slice a n cap:=by
 rcases h.2 with ⟨rfl,rfl⟩|⟨g,cap,cur,e,_⟩
 ·exact ⟨_,_,rfl⟩
 ·exact ⟨_,_,e⟩
theorem ek.cell {a:Option Addr} {cap:Nat} (h:ek T size w (.slice a n cap) n xs) {j:Nat} (hj:j<n*size):∃ g,a=Option.some ⟨g,0,.none⟩∧w.cell? ⟨g,j,.none⟩=xs[j]? := by
 have hn:0<n:=by
  rcases Nat.eq_zero_or_pos n with rfl|h0
  ·simp at hj
  ·exact h0
 obtain ⟨g,cap',cur,e,hg,h1,h2,h3,h4⟩:=h.some hn
 simp only [Value.slice.injEq] at e
 obtain ⟨rfl,_,rfl⟩:=e
 refine ⟨g,rfl,?_⟩
 have hc:w.cell? ⟨g,j,.none⟩=cur[j]? := by simp [World.cell?,hg]
 rw [hc,←h4,List.getElem?_take_of_lt hj]
 simp
theorem ek.set {a:Option Addr} {cap:Nat} (h:ek T size w (.slice a n cap) n xs) {g j:Nat} (ha:a=Option.some ⟨g,0,.none⟩) (u:Value):ek T size (w.setCell ⟨g,j,.none⟩ u) (.slice a n cap) n (xs.set j u):=by
 refine ⟨by rw [List.length_set];exact h.1,?_⟩
 rcases h.2 with ⟨e,_⟩|⟨g',cap',cur,e,_,hg,h1,h2,h3,h4⟩
 ·rw [ha] at e;cases e
 ·have e0:=e
  rw [ha] at e
  simp only [Value.slice.injEq,Option.some.injEq,Addr.mk.injEq,and_true,true_and] at e
  obtain ⟨rfl,rfl⟩:=e
  refine .inr ⟨g,cap,cur.setIfInBounds j u,e0,Nat.zero_le _,heap_setCell_same w g j _ _ _ hg,h1,h2,by simpa using h3,?_⟩
  rw [←h4,Array.toList_setIfInBounds,List.take_set]
end
structure EltI (slT T:TypeId) (size bytes:Nat):Prop where
 info:∃ i z,Tryz.prog.info? T=some i∧i.zero=some z∧i.size=size∧i.bytes=bytes∧z.cells.size=size
 und:Tryz.prog.underlying slT=some (.slice T)
 pos:0<size
 low:bytes≤1000
theorem run_appX {slT T:TypeId} {size bytes:Nat} (E:EltI slT T size bytes) (ty:TypeId) {u:Value} {n:Nat} {xs:List Value} {X:World} (ho:ek T size X u n xs) (b o m c:Nat) (news:List Value) (hl:news.length=m*size)
 (hc:∀ j y,news[j]? = some y→X.cell? ⟨b,o+j,.none⟩=some y) (h1:∀ y ∈ news,y.oneCell'=true) (hn:n+m≤1000000) :
 ∃ v' w',(Builtin.append_ #[slT,slT] ty #[u,.slice (some ⟨b,o,.none⟩) m c]).run Tryz.prog X=.ok v' w'∧ek T size w' v' (n+m) (xs ++ news)∧ae (ObX u) (ObX v') X w':=by
 obtain ⟨i,z,hi,hz,hs,hb,hzs⟩:=E.info
 have hadd:∀ j,(⟨b,o,.none⟩:Addr).add j=⟨b,o+j,.none⟩:=fun j=>by cases j <;> simp [Addr.add]
 have hmul:(n+m)*bytes≤1000000*1000:=Nat.mul_le_mul hn E.low
 obtain ⟨v',w',hr,h2,h3,h4,h5⟩:=run_append_own_at (P:=Tryz.prog) (w:=X) 0 slT ty T i z size bytes E.und hi hz hs hb hzs E.pos u n xs ho ⟨b,o,.none⟩ m c news hl (fun j y hj=>by rw [hadd];exact hc j y hj) h1 (by simp only [maxLen];omega) (by omega) (Nat.zero_le _)
 refine ⟨v',w',hr,h2,⟨h3.os,h3.tape,h3.output,h3.size,fun k hk hne=>h3.block k hk (fun e=>hne e.symm),fun k hk=>?_⟩⟩
 rcases h5 with h5|h5
 ·exact .inl (by unfold ObX at *;rw [←h5];exact hk)
 ·refine .inr ?_
  unfold ObX at hk
  rw [h5] at hk
  simp only [Option.some.injEq] at hk
  omega
theorem wp_appX {slT T:TypeId} {size bytes:Nat} (E:EltI slT T size bytes) {o:Oper} {a:Act} {K:Act→World→Prop} {Q:Exit→Act→World→Prop} (s x:Operand) (hop:o.op=.call { callee:=.builtin .append,args:=#[s,x],argTypes:=#[slT,slT] })
 {u:Value} {n:Nat} {xs:List Value} {X:World} (ho:ek T size X u n xs) (b p m c:Nat) (news:List Value) (hs:a.eval s=u) (hx:a.eval x=.slice (some ⟨b,p,.none⟩) m c) (hl:news.length=m*size)
 (hc:∀ j y,news[j]? = some y→X.cell? ⟨b,p+j,.none⟩=some y) (h1:∀ y ∈ news,y.oneCell'=true) (hn:n+m≤1000000)
 (h:∀ v' w',ek T size w' v' (n+m) (xs ++ news)→ae (ObX u) (ObX v') X w'→K (a.put o.dst v') w'):Oper.wp Tryz.prog o a X K Q:=by
 obtain ⟨v',w',hr,h2,h3⟩:=run_appX E o.type ho b p m c news hl hc h1 hn
 unfold Oper.wp execOp
 simp only [hop,resolve,invoke,builtin,Sem.run_bind,Sem.run_pure,Result.andThen_ok,List.map_toArray,List.map_cons,List.map_nil,hs,hx,hr]
 exact h v' w' h2 h3
theorem wpList_appX {slT T:TypeId} {size bytes:Nat} (E:EltI slT T size bytes) {ops:Array Oper} {rest:List Oper} {o:Oper} {a:Act} {Q:Exit→Act→World→Prop} (hgd:o.guard=.none) (s x:Operand) (hop:o.op=.call { callee:=.builtin .append,args:=#[s,x],argTypes:=#[slT,slT] })
 {u:Value} {n:Nat} {xs:List Value} {X:World} (ho:ek T size X u n xs) (b p m c:Nat) (news:List Value) (hs:a.eval s=u) (hx:a.eval x=.slice (some ⟨b,p,.none⟩) m c) (hl:news.length=m*size)
 (hc:∀ j y,news[j]? = some y→X.cell? ⟨b,p+j,.none⟩=some y) (h1:∀ y ∈ news,y.oneCell'=true) (hn:n+m≤1000000)
 (h:∀ v' w',ek T size w' v' (n+m) (xs ++ news)→ae (ObX u) (ObX v') X w'→wpList Tryz.prog ops Q rest (a.put o.dst v') w'):wpList Tryz.prog ops Q (o :: rest) a X :=
 wpList_plain hgd fun _ hK=>wp_appX E s x hop ho b p m c news hs hx hl hc h1 hn fun v' w' q1 q2=>hK _ _ (h v' w' q1 q2)
end Go.Proofs.YtpkhdihoijkamaaGreatDoor.D
