/- Several texts of this seat in one: GEqR, UEq. No statement of the seat is proved here. -/
import Derived.Test.YtpkhdihoijkamaaGreatDoorZA13
import Derived.Test.YtpkhdihoijkamaaGreatDoorZA28
import Derived.Test.YtpkhdihoijkamaaGreatDoorZA11
namespace Go.Proofs.YtpkhdihoijkamaaGreatDoor.G
set_option maxRecDepth 100000
open Go.ChangeShapes Go.WideShapes Go.ChangeAt Go.RowKit Go.Deep
theorem part_arrR (w:World) (f:Int) (l:List Cel) (hl:fo l):(part 45 (aj f l).toArray 1).run Tryz.prog w=.ok (.agg (bq l).toArray) w:=by
 have e:((aj f l).toArray.extract 1 (1+24))=(bq l).toArray:=by
  rw [List.extract_toArray,List.extract_eq_take_drop]
  show ((bq l).take 24).toArray=_
  rw [List.take_of_length_le (by rw [ab4,hl.len];decide)]
 obtain ⟨i,hi,hs⟩:∃ i,Tryz.prog.info? 45=some i∧i.size=24:=by
  have:(Tryz.prog.info? 45).map (·.size)=some 24:=by kernel_rfl
  cases h:Tryz.prog.info? 45 with
  | none=>rw [h] at this;cases this
  | some i=>rw [h] at this;exact ⟨i,rfl,by simpa using this⟩
 have hagg:(isAgg 45).run Tryz.prog w=.ok true w:=by
  unfold isAgg;rw [Sem.run_bind,run_underlying Tryz.underlying45 w];rfl
 have hsz:(sizeOf 45).run Tryz.prog w=.ok 24 w:=by simp [sizeOf,typeInfo,hi,hs]
 simp only [part,Sem.run_bind,hagg,Result.andThen_ok,if_true,hsz,Sem.run_pure,e]
theorem part_floorR (w:World) (f:Int) (l:List Cel):(part 3 (aj f l).toArray 0).run Tryz.prog w=.ok (.int .i64 f) w:=by
 have hagg:(isAgg 3).run Tryz.prog w=.ok false w:=by
  unfold isAgg;rw [Sem.run_bind,run_underlying Tryz.underlying3 w];rfl
 simp [part,Sem.run_bind,hagg,aj]
end Go.Proofs.YtpkhdihoijkamaaGreatDoor.G
namespace Go.Proofs.YtpkhdihoijkamaaGreatDoor.U
open Go.ChangeShapes Go.WideShapes Go.ChangeAt Go.RowKit Go.Deep Go.Maps
open Go.Proofs.YtpkhdihoijkamaaGreatDoor.D
theorem run_eq_repD (d:Nat) (f f':Int) (l l':List G.Cel) (w:World) (h:G.fo l) (h':G.fo l'):(Op.equalIn (d+4) 47 (.agg (G.aj f l).toArray) (.agg (G.aj f' l').toArray)).run Tryz.prog w=.ok (G.eqRep f l f' l') w:=by
 rw [show d+4=(d+3)+1 from rfl,run_equalIn_agg w _ _ _ _ (by kernel_rfl) (by kernel_rfl)]
 obtain ⟨F0,F1,hF,t0,o0,t1,o1,n0,n1⟩:∃ F0 F1:Field,(Tryz.prog.fieldsOf 47).toList=[F0,F1]∧F0.type=3∧F0.offset=0∧F1.type=45∧F1.offset=1∧F0.name ≠ "_"∧F1.name ≠ "_" :=
  ⟨_,_,by rw [Program.fieldsOf,Tryz.underlying47],rfl,rfl,rfl,rfl,by decide,by decide⟩
 rw [hF]
 simp only [Op.eqFields,n0,n1,t0,o0,t1,o1,ne_eq,not_false_eq_true,if_true,Sem.run_bind,G.part_floorR,Result.andThen_ok]
 rw [show d+3=(d+2)+1 from rfl,run_equalIn_int w _ _ _ _ _ _ Tryz.underlying3]
 simp only [Result.andThen_ok]
 cases hff:(f == f') with
 | false=>simp [G.eqRep,hff]
 | true =>
   simp only [Bool.not_true,Bool.false_eq_true,if_false,Sem.run_bind]
   rw [G.part_arrR w f l h]
   simp only [Result.andThen_ok]
   rw [G.part_arrR w f' l' h']
   simp only [Result.andThen_ok]
   rw [show d+2+1=d+3 from rfl,G.run_eq_arr _ l l' w h h']
   cases he:G.eqL l l' <;> simp [G.eqRep,hff,he]
theorem part_rep (w:World) (pre:List G.Rep) (r:G.Rep) (l:List G.Rep) (hp:∀ x ∈ pre,G.fo x.l) (hr:G.fo r.l):(part 47 (G.jd (pre ++ r :: l)).toArray (pre.length*25)).run Tryz.prog w=.ok (.agg r.vs.toArray) w:=by
 have hrl:r.vs.length=25:=hr.vlen r.f
 have e:((G.jd (pre ++ r :: l)).toArray.extract (pre.length*25) (pre.length*25+25))=r.vs.toArray:=by
  rw [List.extract_toArray,List.extract_eq_take_drop,show G.jd (pre ++ r :: l)=G.jd pre ++ (r.vs ++ G.jd l) by simp [G.jd]]
  rw [List.drop_left' (by rw [G.yu pre hp];omega),show pre.length*25+25 - pre.length*25=25 by omega,List.take_left' hrl]
 obtain ⟨i,hi,hs⟩:∃ i,Tryz.prog.info? 47=some i∧i.size=25:=by
  have:(Tryz.prog.info? 47).map (·.size)=some 25:=by kernel_rfl
  cases h:Tryz.prog.info? 47 with
  | none=>rw [h] at this;cases this
  | some i=>rw [h] at this;exact ⟨i,rfl,by simpa using this⟩
 have hagg:(isAgg 47).run Tryz.prog w=.ok true w:=by
  unfold isAgg;rw [Sem.run_bind,run_underlying Tryz.underlying47 w];rfl
 have hsz:(sizeOf 47).run Tryz.prog w=.ok 25 w:=by simp [sizeOf,typeInfo,hi,hs]
 simp only [part,Sem.run_bind,hagg,Result.andThen_ok,if_true,hsz,Sem.run_pure,e]
theorem run_itemsR (d:Nat) (w:World):∀ (l pre:List G.Rep),(∀ x ∈ pre,G.fo x.l)→(∀ x ∈ l,G.fo x.l) →
 (Op.eqItems (d+4) 47 25 (G.jd (pre ++ l)).toArray (G.jd (pre ++ l)).toArray (List.range' pre.length l.length)).run Tryz.prog w=.ok true w
 | [],_,_,_=>by simp [Op.eqItems]
 | a :: l,pre,hp,hl=>by
   have ha:=hl a List.mem_cons_self
   have ih:=run_itemsR d w l (pre ++ [a]) (fun x hx=>by
    rcases List.mem_append.1 hx with h|h
    ·exact hp x h
    ·obtain rfl:x=a:=by simpa using h
     exact ha) (fun x hx=>hl x (List.mem_cons_of_mem _ hx))
   simp only [List.append_assoc,List.singleton_append,List.length_append,List.length_singleton] at ih
   simp only [List.length_cons,List.range'_succ,Op.eqItems,Sem.run_bind,part_rep w pre a l hp ha,Result.andThen_ok]
   rw [show a.vs=G.aj a.f a.l from rfl,run_eq_repD d a.f a.f a.l a.l w ha ha,G.eqRep_refl]
   simp only [Result.andThen_ok,Bool.not_true,Bool.false_eq_true,if_false]
   exact ih
theorem run_eq_reps (d:Nat) (rs:List G.Rep) (w:World) (hl:rs.length=3) (h:∀ x ∈ rs,G.fo x.l):(Op.equalIn (d+5) 48 (.agg (G.jd rs).toArray) (.agg (G.jd rs).toArray)).run Tryz.prog w=.ok true w:=by
 obtain ⟨i,hi,hs⟩:∃ i,Tryz.prog.info? 47=some i∧i.size=25:=by
  have:(Tryz.prog.info? 47).map (·.size)=some 25:=by kernel_rfl
  cases h:Tryz.prog.info? 47 with
  | none=>rw [h] at this;cases this
  | some i=>rw [h] at this;exact ⟨i,rfl,by simpa using this⟩
 rw [show d+5=(d+4)+1 from rfl,run_equalIn_array w _ _ _ Tryz.underlying48 hi,show Tryz.prog.cellsOf 47=25 by kernel_rfl]
 have:=run_itemsR d w rs [] (fun x hx=>by cases hx) h
 rwa [hl,List.nil_append,List.length_nil,←List.range_eq_range'] at this
theorem run_eq_up3 (d:Nat) (up:List Bool) (h:up.length=3) (w:World):(Op.equalIn (d+2) 49 (.agg (up.map Value.bool).toArray) (.agg (up.map Value.bool).toArray)).run Tryz.prog w=.ok true w:=by
 match up,h with
 | [a,b,c],_=>cases a <;> cases b <;> cases c <;> (show _=_;kernel_rfl)
theorem part_agg {w:World} {T n:Nat} {xs:Array Value} {o:Nat} (hi:(Tryz.prog.info? T).map (·.size)=some n) (ha:(isAgg T).run Tryz.prog w=.ok true w):(part T xs o).run Tryz.prog w=.ok (.agg (xs.extract o (o+n))) w:=by
 obtain ⟨i,hi,hs⟩:∃ i,Tryz.prog.info? T=some i∧i.size=n:=by
  cases h:Tryz.prog.info? T with
  | none=>rw [h] at hi;cases hi
  | some i=>rw [h] at hi;exact ⟨i,rfl,by simpa using hi⟩
 have hsz:(sizeOf T).run Tryz.prog w=.ok n w:=by simp [sizeOf,typeInfo,hi,hs]
 simp only [part,Sem.run_bind,ha,Result.andThen_ok,if_true,hsz,Sem.run_pure]
theorem isAgg_of {w:World} {T:TypeId} {d:TypeDesc} (hu:Tryz.prog.underlying T=some d) (h:d.isRow=true):(isAgg T).run Tryz.prog w=.ok true w:=by
 unfold isAgg;rw [Sem.run_bind,run_underlying hu w]
 cases d <;> first|rfl|(exact absurd h (by simp [TypeDesc.isRow]))
theorem run_eq_gr {rs:List G.Rep} {up:List Bool} (h:G.GOK rs up) (w:World):(Op.equalIn 10000 51 (.agg (G.grV rs up).toArray) (.agg (G.grV rs up).toArray)).run Tryz.prog w=.ok true w:=by
 rw [show (10000:Nat)=9999+1 from rfl,run_equalIn_agg w _ _ _ _ (by kernel_rfl) (by kernel_rfl)]
 obtain ⟨F0,F1,hF,t0,o0,t1,o1,n0,n1⟩:∃ F0 F1:Field,(Tryz.prog.fieldsOf 51).toList=[F0,F1]∧F0.type=48∧F0.offset=0∧F1.type=49∧F1.offset=75∧F0.name ≠ "_"∧F1.name ≠ "_" :=
  ⟨_,_,by rw [Program.fieldsOf,Tryz.underlying51],rfl,rfl,rfl,rfl,by decide,by decide⟩
 have hrl:(G.jd rs).length=75:=by rw [G.yu rs h.ok,h.len]
 have e0:(part 48 (G.grV rs up).toArray 0).run Tryz.prog w=.ok (.agg (G.jd rs).toArray) w:=by
  rw [part_agg (n:=75) (by kernel_rfl) (isAgg_of Tryz.underlying48 rfl),List.extract_toArray,List.extract_eq_take_drop]
  unfold G.grV
  rw [List.drop_zero,show 0+75 - 0=75 from rfl,List.take_left' hrl]
 have e1:(part 49 (G.grV rs up).toArray 75).run Tryz.prog w=.ok (.agg (up.map Value.bool).toArray) w:=by
  rw [part_agg (n:=3) (by kernel_rfl) (isAgg_of Tryz.underlying49 rfl),List.extract_toArray,List.extract_eq_take_drop]
  unfold G.grV
  rw [List.drop_left' hrl,show 75+3 - 75=3 from rfl,List.take_of_length_le (by rw [List.length_map,h.upl];decide)]
 rw [hF]
 simp only [Op.eqFields,n0,n1,t0,o0,t1,o1,ne_eq,not_false_eq_true,if_true,Sem.run_bind,e0,Result.andThen_ok]
 rw [show (9999:Nat)=9994+5 from rfl,run_eq_reps 9994 rs w h.len h.ok]
 simp only [Result.andThen_ok,Bool.not_true,Bool.false_eq_true,if_false]
 simp only [Sem.run_bind,e1,Result.andThen_ok]
 rw [show 9994+5=9997+2 from rfl,run_eq_up3 9997 up h.upl w]
 simp
set_option maxHeartbeats 1000000 in
theorem neq_ms (m:ed) (w:World):(binOp .neq 116 (.agg m.vs.toArray) (.agg m.vs.toArray)).run Tryz.prog w=.ok (.bool false) w:=by
 have hS:Tryz.prog.underlying 116=some (.struct (Tryz.prog.fieldsOf 116)):=by kernel_rfl
 have hp:Tryz.prog.stoodInHeld 116=false:=by kernel_rfl
 have hc:=G.acr 9997 m.c m.c w
 rw [G.ac6] at hc
 rw [run_neq_struct,show (10000:Nat)=9999+1 from rfl,run_equalIn_agg w 9999 116 _ _ hS hp]
 have pc:(part 44 m.vs.toArray 2).run Tryz.prog w=.ok (.agg #[.int .i64 m.c.e,.int .i64 m.c.n,.string m.c.d]) w:=by
  rw [part_agg (n:=3) (by kernel_rfl) (isAgg_of Tryz.underlying44 rfl)]
  rfl
 obtain ⟨F0,F1,F2,F3,hF,t0,o0,t1,o1,t2,o2,t3,o3,n0,n1,n2,n3⟩:∃ F0 F1 F2 F3:Field,(Tryz.prog.fieldsOf 116).toList=[F0,F1,F2,F3]∧F0.type=3∧F0.offset=0∧F1.type=3∧F1.offset=1∧F2.type=44∧F2.offset=2∧F3.type=3∧F3.offset=5∧F0.name ≠ "_"∧F1.name ≠ "_"∧F2.name ≠ "_"∧F3.name ≠ "_" :=
  ⟨_,_,_,_,by rw [Program.fieldsOf,Tryz.underlying116],rfl,rfl,rfl,rfl,rfl,rfl,rfl,rfl,by decide,by decide,by decide,by decide⟩
 have hagg:(isAgg 3).run Tryz.prog w=.ok false w:=by
  unfold isAgg;rw [Sem.run_bind,run_underlying Tryz.underlying3 w];rfl
 have p0:(part 3 m.vs.toArray 0).run Tryz.prog w=.ok (.int .i64 m.dst) w:=by simp [part,Sem.run_bind,hagg,ed.vs,G.msgV]
 have p1:(part 3 m.vs.toArray 1).run Tryz.prog w=.ok (.int .i64 m.k) w:=by simp [part,Sem.run_bind,hagg,ed.vs,G.msgV]
 have p5:(part 3 m.vs.toArray 5).run Tryz.prog w=.ok (.int .i64 m.tag) w:=by simp [part,Sem.run_bind,hagg,ed.vs,G.msgV]
 have hi:∀ x:Int,(Op.equalIn 9999 3 (.int .i64 x) (.int .i64 x)).run Tryz.prog w=.ok true w:=fun x=>by
  rw [show (9999:Nat)=9998+1 from rfl,run_equalIn_int w _ _ _ _ _ _ Tryz.underlying3];simp
 rw [hF]
 simp only [Op.eqFields,n0,n1,n2,n3,t0,o0,t1,o1,t2,o2,t3,o3,ne_eq,not_false_eq_true,if_true,Sem.run_bind,p0,p1,p5,pc,hi,show (Op.equalIn 9999 44 (.agg #[.int .i64 m.c.e,.int .i64 m.c.n,.string m.c.d]) (.agg #[.int .i64 m.c.e,.int .i64 m.c.n,.string m.c.d])).run Tryz.prog w=.ok true w from hc,Result.andThen_ok,Bool.not_true,Bool.false_eq_true,if_false,Sem.run_pure]
end Go.Proofs.YtpkhdihoijkamaaGreatDoor.U
