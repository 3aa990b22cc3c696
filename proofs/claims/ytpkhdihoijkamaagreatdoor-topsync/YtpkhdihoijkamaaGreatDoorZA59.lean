/- Several texts of this seat in one: USame. No statement of the seat is proved here. -/
import Derived.Test.YtpkhdihoijkamaaGreatDoorWT
import Derived.Test.YtpkhdihoijkamaaGreatDoorZA40
import Derived.Test.YtpkhdihoijkamaaGreatDoorZA44
import Derived.Test.YtpkhdihoijkamaaGreatDoorZA37
namespace Go.Proofs.YtpkhdihoijkamaaGreatDoor.U
open Go.ChangeShapes Go.WideShapes Go.ChangeAt Go.RowKit Go.Deep Go.Maps
open Go.Proofs.YtpkhdihoijkamaaGreatDoor.D
attribute [local go_sem] zc78
theorem floor_cell {W:World} {b:Nat} {T:TypeId} {rs:List G.Rep} {up:List Bool} (hA:G.At W b (G.grV rs up) T) (h:G.GOK rs up) (m:Nat) (hm:m<3):W.cell? ⟨b,m*25,.none⟩=some (.int .i64 (G.ah rs m).f):=by
 have hml:m<rs.length:=by rw [h.len];exact hm
 have:=(hA.cell (m*25+0)).trans (h.rep m hml 0 (by decide))
 rw [Nat.add_zero] at this
 rw [this,G.aao hml];rfl
theorem xg {W:World} {b:Nat} {T:TypeId} {rs:List G.Rep} {up:List Bool} (hA:G.At W b (G.grV rs up) T) (h:G.GOK rs up) (m:Nat) (hm:m<3):(Instr.loadAt 47 (.pointer (some ⟨b,m*25,.none⟩))).run Tryz.prog W=.ok (.agg (G.ah rs m).vs.toArray) W:=by
 have hml:m<rs.length:=by rw [h.len];exact hm
 refine run_loadAt_mid W b (m*25) _ _ _ (fun j v hj=>?_) Tryz.underlying47 rfl (by rw [show (G.ah rs m).vs.length=25 from (G.aaa h m hm).vlen _];kernel_rfl)
 have hj25:j<25:=by have:=(List.getElem?_eq_some_iff.1 hj).1;rwa [show (G.ah rs m).vs.length=25 from (G.aaa h m hm).vlen _] at this
 rw [(hA.cell (m*25+j)).trans (h.rep m hml j hj25),←hj,G.aao hml]
theorem load_up3 {W:World} {b:Nat} {T:TypeId} {rs:List G.Rep} {up:List Bool} (hA:G.At W b (G.grV rs up) T) (h:G.GOK rs up):(Instr.loadAt 49 (.pointer (some ⟨b,75,.none⟩))).run Tryz.prog W=.ok (.agg (up.map Value.bool).toArray) W:=by
 refine run_loadAt_mid W b 75 _ (up.map Value.bool) _ (fun j v hj=>?_) Tryz.underlying49 rfl (by rw [List.length_map,h.upl];kernel_rfl)
 have hj':j<up.length:=by have:=(List.getElem?_eq_some_iff.1 hj).1;simpa using this
 rw [(hA.cell (75+j)).trans (h.upc j hj'),←hj];simp [hj']
theorem neq_cel (c:G.Cel) (W:World):(binOp .neq 44 (.agg #[.int .i64 c.e,.int .i64 c.n,.string c.d]) (.agg #[.int .i64 c.e,.int .i64 c.n,.string c.d])).run Tryz.prog W=.ok (.bool false) W:=by
 rw [run_neq_struct,show (10000:Nat)=9998+2 from rfl,G.acr 9998 c c W,G.ac6];rfl
theorem neq_rep {r:G.Rep} (h:G.fo r.l) (W:World):(binOp .neq 47 (.agg r.vs.toArray) (.agg r.vs.toArray)).run Tryz.prog W=.ok (.bool false) W:=by
 rw [run_neq_struct,show (10000:Nat)=9996+4 from rfl,show r.vs=G.aj r.f r.l from rfl,run_eq_repD 9996 r.f r.f r.l r.l W h h,G.eqRep_refl];rfl
set_option maxRecDepth 100000 in
set_option maxHeartbeats 16000000 in
theorem sameT_any {rs rs2:List G.Rep} {up:List Bool} (h:G.GOK rs up) (h2:G.GOK rs2 up) (i:Nat) (hi:i<3) (he:∀ k:Nat,k<3→k≠i→G.ah rs2 k=G.ah rs k) (w:World) :
 Calls Tryz.prog 45 #[.agg (G.grV rs2 up).toArray,.agg (G.grV rs up).toArray,.int .i64 (i:Int)] w fun r w'=>r=.returned (.bool true)∧Below w.heap.size w w':=by
 obtain ⟨X,hX,a0,a1,bX,sX⟩:=Go.Proofs.YtpkhdihoijkamaaGreatDoor.D.two w (.cells (G.grV rs2 up).toArray 51) (.cells (G.grV rs up).toArray 51)
 have HS0:Hid (G.At X w.heap.size (G.grV rs2 up) 51∧G.At X (w.heap.size+1) (G.grV rs up) 51∧Below w.heap.size w X):=⟨a0,a1,bX⟩
 have HE:Hid (G.GOK rs up∧G.GOK rs2 up∧i<3∧∀ k:Nat,k<3→k≠i→G.ah rs2 k=G.ah rs k):=⟨h,h2,hi,he⟩
 clear a0 a1 bX sX h h2 he hi
 go_enter Tryz.func45,Tryz.ntmps45
 go_wp2_with fail
 rw [←hX]
 clear hX
 go_loopw [7] (fun v wr=>∃ k:Nat,k≤3∧v=.int .i64 k∧(G.At wr w.heap.size (G.grV rs2 up) 51∧G.At wr (w.heap.size+1) (G.grV rs up) 51∧Below w.heap.size w wr)) (fun v _=>3 - (intOf v).toNat)
 case atStart=>exact ⟨0,by decide,rfl,HS0.out⟩
 case round =>
  clear HS0
  obtain ⟨k,hk,rfl,hq⟩:=hrel
  have HQ0:Hid (G.At wr w.heap.size (G.grV rs2 up) 51∧G.At wr (w.heap.size+1) (G.grV rs up) 51∧Below w.heap.size w wr):=hq
  clear hq
  by_cases hlt:k<3
  ·have hki:(k:Int)<3:=by omega
   have HK:Hid (k<3):=hlt
   obtain ⟨b0,hb0⟩:∃ b0,w.heap.size=b0:=⟨_,rfl⟩
   have HB0:Hid (w.heap.size=b0):=hb0
   go_upto_region 4 with fail
   refine ql (S:=fun w'=>G.At w' w.heap.size (G.grV rs2 up) 51∧G.At w' (w.heap.size+1) (G.grV rs up) 51∧Below w.heap.size w w') (by kernel_rfl) ?_
   intro V hV bV sV
   have HQ:Hid (G.At V w.heap.size (G.grV rs2 up) 51∧G.At V (w.heap.size+1) (G.grV rs up) 51∧Below w.heap.size w V):=⟨HQ0.out.1.later bV HQ0.out.1.lt,HQ0.out.2.1.later bV HQ0.out.2.1.lt,HQ0.out.2.2.trans (bV.mono HQ0.out.2.2.size)⟩
   clear hV bV sV hk hlt hb0 HQ0
   by_cases hki':k=i
   ·have hne:((k:Int) != (i:Int))=false:=by simp [hki']
    refine wpG 0 (.int .i64 (k:Int)) HQ.out ?_
    refine wpG 1 (.int .i64 (i:Int)) HQ.out ?_
    refine wpG 2 (.bool false) HQ.out ?_
    (try simp [Act.put])
    refine wpG 3 (.bool false) HQ.out ?_
    (try simp [Act.put])
    refine wpT 4 (undef) (.inr ⟨rfl,rfl⟩) HQ.out ?_
    refine wpT 5 (undef) (.inr ⟨rfl,rfl⟩) HQ.out ?_
    refine wpT 6 (undef) (.inr ⟨rfl,rfl⟩) HQ.out ?_
    (try simp [Act.put])
    refine wpT 7 (undef) (.inr ⟨rfl,rfl⟩) HQ.out ?_
    refine wpT 8 (undef) (.inr ⟨rfl,rfl⟩) HQ.out ?_
    refine wpT 9 (undef) (.inr ⟨rfl,rfl⟩) HQ.out ?_
    (try simp [Act.put])
    refine wpT 10 (undef) (.inr ⟨rfl,rfl⟩) HQ.out ?_
    refine wpT 11 (undef) (.inr ⟨rfl,rfl⟩) HQ.out ?_
    refine wpT 12 (undef) (.inr ⟨rfl,rfl⟩) HQ.out ?_
    (try simp [Act.put])
    refine wpG 13 (.bool false) HQ.out ?_
    (try simp [Act.put])
    refine wpZ ?_
    (try simp [Act.put])
    go_wp2
    exact ⟨⟨k+1,HK.out,by go_num,HQ.out⟩,by simp [intOf];have:=HK.out;omega⟩
   ·have hne:((k:Int) != (i:Int))=true:=by simp;omega
    have hnr:∀ W,(binOp .neq 47 (.agg (G.ah rs2 k).vs.toArray) (.agg (G.ah rs k).vs.toArray)).run Tryz.prog W=.ok (.bool false) W:=fun W=>by
     rw [HE.out.2.2.2 k HK.out hki'];exact neq_rep (G.aaa HE.out.1 k HK.out) W
    refine wpG 0 (.int .i64 (k:Int)) HQ.out ?_
    refine wpG 1 (.int .i64 (i:Int)) HQ.out ?_
    refine wpG 2 (.bool true) HQ.out ?_
    (try simp [Act.put])
    refine wpG 3 (.bool true) HQ.out ?_
    refine wpG 4 (.int .i64 (k:Int)) HQ.out ?_
    refine wpG 5 (.pointer (some ⟨w.heap.size,0,.none⟩)) HQ.out ?_
    (try simp [Act.put])
    refine wpG 6 (.pointer (some ⟨w.heap.size,k*25,.none⟩)) HQ.out ?_
    refine wpT 7 (.agg (G.ah rs2 k).vs.toArray) (.inl ⟨rfl,fun w' hw'=>?_⟩) HQ.out ?_
    ·exact jc (xg hw'.1 HE.out.2.1 k HK.out) rfl
    refine wpG 8 (.int .i64 (k:Int)) HQ.out ?_
    (try simp [Act.put])
    refine wpG 9 (.pointer (some ⟨w.heap.size+1,0,.none⟩)) HQ.out ?_
    refine wpG 10 (.pointer (some ⟨w.heap.size+1,k*25,.none⟩)) HQ.out ?_
    refine wpT 11 (.agg (G.ah rs k).vs.toArray) (.inl ⟨rfl,fun w' hw'=>?_⟩) HQ.out ?_
    ·exact jc (xg hw'.2.1 HE.out.1 k HK.out) rfl
    (try simp [Act.put])
    refine wpG 12 (.bool false) HQ.out ?_
    refine wpG 13 (.bool false) HQ.out ?_
    (try simp [Act.put])
    refine wpZ ?_
    (try simp [Act.put])
    clear hnr
    go_wp2
    exact ⟨⟨k+1,HK.out,by go_num,HQ.out⟩,by simp [intOf];have:=HK.out;omega⟩
  ·have hki:¬((k:Int)<3):=by omega
   have HE2:Hid (Below w.heap.size w wr):=HQ0.out.2.2
   go_wp2
   go_ret
   exact ⟨rfl,HE2.out⟩
end Go.Proofs.YtpkhdihoijkamaaGreatDoor.U
