/- Several texts of this seat in one: DNew. No statement of the seat is proved here. -/
import Derived.Test.YtpkhdihoijkamaaGreatDoorWT
import Derived.Test.YtpkhdihoijkamaaGreatDoorZA04
import Derived.Laws.MakeOwn
namespace Go.Proofs.YtpkhdihoijkamaaGreatDoor.D
open Go.ChangeShapes Go.WideShapes Go.ChangeAt Go.RowKit Go.Deep
attribute [local go_sem] zc65
def zsec:Sec:=List.replicate 64 0
def lq (n:Nat):DM:={ kept:=List.replicate n zsec,now:=List.replicate n zsec,since:=List.replicate n [],next:=0,armed:=false,left:=0,down:=false }
theorem zero_sec:∃ i,Tryz.prog.info? 148=some i∧i.zero=some (.agg (List.replicate 64 (Value.int .u8 0)).toArray)∧i.size=64∧i.bytes=64:=by
 have h:(Tryz.prog.info? 148).map (fun i=>(i.zero,i.size,i.bytes))=some (some (.agg (List.replicate 64 (Value.int .u8 0)).toArray),64,64):=by kernel_rfl
 cases hi:Tryz.prog.info? 148 with
 | none=>rw [hi] at h;cases h
 | some i =>
   rw [hi] at h
   simp only [Option.map_some,Option.some.injEq,Prod.mk.injEq] at h
   exact ⟨i,rfl,h.1,h.2.1,h.2.2⟩
theorem zero_lw:∃ i,Tryz.prog.info? 146=some i∧i.zero=some (.slice .none 0 0)∧i.size=1∧i.bytes=24:=by
 have h:(Tryz.prog.info? 146).map (fun i=>(i.zero,i.size,i.bytes))=some (some (.slice .none 0 0),1,24):=by kernel_rfl
 cases hi:Tryz.prog.info? 146 with
 | none=>rw [hi] at h;cases h
 | some i =>
   rw [hi] at h
   simp only [Option.map_some,Option.some.injEq,Prod.mk.injEq] at h
   exact ⟨i,rfl,h.1,h.2.1,h.2.2⟩
theorem secs_z:∀ n:Nat,secs (List.replicate n zsec)=List.replicate (n*64) (Value.int .u8 0)
 | 0=>rfl
 | n+1=>by
   rw [List.replicate_succ]
   show bcs zsec ++ secs (List.replicate n zsec)=_
   rw [secs_z n,show bcs zsec=List.replicate 64 (Value.int .u8 0) from by simp [bcs,zsec],List.replicate_append_replicate]
   congr 1;omega
theorem made_rep (z:Value) (k n:Nat) (hk:0<k):madeCells (List.replicate k z).toArray n=(List.replicate n z).toArray:=by
 apply Array.ext'
 rw [List.toList_toArray]
 refine List.ext_getElem? fun i=>?_
 simp only [madeCells,Array.toList_map,List.getElem?_map,Array.toList_range,List.getElem?_replicate]
 have hm:=Nat.mod_lt i hk
 by_cases h:i<n
 ·simp [h,hm]
 ·simp [h]
theorem made_z (n:Nat):madeCells (Value.agg (List.replicate 64 (Value.int .u8 0)).toArray).cells (n*64)=(secs (List.replicate n zsec)).toArray:=by
 rw [secs_z]
 exact made_rep _ 64 _ (by decide)
theorem made_l (n:Nat):madeCells (Value.slice .none 0 0).cells (n*1)=(fw n).toArray:=by
 apply Array.ext'
 rw [List.toList_toArray,Nat.mul_one]
 exact toList_madeCells_one _ n
theorem zo {o:Oper} {a:Act} {w:World} {K:Act→World→Prop} {Q:Exit→Act→World→Prop} (x:Operand) (ho:o.op=.makeSlice 142 x x) (n:Nat) (hn:n≤40) (hx:a.eval x=.int .i64 n)
 (h:∀ W,At W w.heap.size (secs (List.replicate n zsec)) 148→Below w.heap.size w W→W.heap.size=w.heap.size+1→K (a.put o.dst (.slice (some ⟨w.heap.size,0,.none⟩) n n)) W):o.wp Tryz.prog a w K Q:=by
 obtain ⟨i,hi,hz,hs,hb⟩:=zero_sec
 have hr:=run_make (P:=Tryz.prog) w 142 148 i _ Tryz.underlying142 hi hz .i64 .i64 n n (by omega) (Int.le_refl _) (by rw [hb];omega) (by omega)
 simp only [Int.toNat_natCast,hs] at hr
 rw [made_z] at hr
 unfold Oper.wp
 simp [execOp,ho,hx,hr,Result.andThen]
 exact h _ (heap_alloc_new w _) ((Below.refl _ _).alloc (Nat.le_refl _) _) (by simp)
theorem wp_mkL {o:Oper} {a:Act} {w:World} {K:Act→World→Prop} {Q:Exit→Act→World→Prop} (x:Operand) (ho:o.op=.makeSlice 143 x x) (n:Nat) (hn:n≤40) (hx:a.eval x=.int .i64 n)
 (h:∀ W,At W w.heap.size (fw n) 146→Below w.heap.size w W→W.heap.size=w.heap.size+1→K (a.put o.dst (.slice (some ⟨w.heap.size,0,.none⟩) n n)) W):o.wp Tryz.prog a w K Q:=by
 obtain ⟨i,hi,hz,hs,hb⟩:=zero_lw
 have hr:=run_make (P:=Tryz.prog) w 143 146 i _ Tryz.underlying143 hi hz .i64 .i64 n n (by omega) (Int.le_refl _) (by rw [hb];omega) (by omega)
 simp only [Int.toNat_natCast,hs] at hr
 rw [made_l] at hr
 unfold Oper.wp
 simp [execOp,ho,hx,hr,Result.andThen]
 exact h _ (heap_alloc_new w _) ((Below.refl _ _).alloc (Nat.le_refl _) _) (by simp)
theorem newAt {W:World} {b n kb nb sb:Nat} (h1:1≤n) (h40:n≤40) (hk:At W kb (secs (List.replicate n zsec)) 148) (hm:At W nb (secs (List.replicate n zsec)) 148) (hs:At W sb (fw n) 146)
 (hd:At W b (hdV (lq n) ⟨kb,nb,sb,fw n⟩ n) 145) (ne:kb≠b∧nb≠b∧sb≠b∧kb≠nb∧kb≠sb∧nb≠sb):DAt W b n (lq n) ⟨kb,nb,sb,fw n⟩:=by
 have hz:∀ x ∈ List.replicate n zsec,x.length=64:=fun x hx=>by rw [(List.mem_replicate.1 hx).2];rfl
 have hsv:∀ v ∈ fw n,v=.slice .none 0 0:=fun v hv=>(List.mem_replicate.1 hv).2
 refine ⟨⟨by simp [lq],by simp [lq],by simp [lq],h1,h40,hz,hz,?_,by show 0<64;decide,?_,by show (0:Int)≤_;decide⟩,hd,hk,hm,hs,by simp [fw],?_,ne,?_,?_⟩
 ·intro l hl
  obtain rfl:l=[]:=(List.mem_replicate.1 hl).2
  exact ⟨fun x hx=>by simp at hx,by simp⟩
 ·intro e;simp [lq] at e
 ·intro i l v hl hv
  obtain rfl:=hsv v (List.mem_of_getElem? hv)
  have:=List.mem_of_getElem? hl
  obtain rfl:l=[]:=(List.mem_replicate.1 this).2
  exact ownW_nil W
 ·intro v hv k hk
  obtain rfl:=hsv v hv
  simp [Value.ownBlock] at hk
 ·intro i j v u k hv hu hk
  obtain rfl:=hsv v (List.mem_of_getElem? hv)
  simp [Value.ownBlock] at hk
theorem ul {B B':Nat} {u v:World} (h:Below B u v) (hB:B'≤B):Below B' u v:=⟨h.os,h.tape,h.output,h.size,fun k hk=>h.block k (by omega)⟩
theorem wp_boxD {o:Oper} {a:Act} {w:World} {K:Act→World→Prop} {Q:Exit→Act→World→Prop} (x:Operand) (ho:o.op=.box 145 x) (l:List Value) (hx:a.eval x=.agg l.toArray)
 (h:∀ W,At W w.heap.size l 145→Below w.heap.size w W→W.heap.size=w.heap.size+1→K (a.put o.dst (.pointer (some ⟨w.heap.size,0,.none⟩))) W):o.wp Tryz.prog a w K Q:=by
 unfold Oper.wp execOp
 simp only [ho,hx,Sem.run_bind,Instr.box,newVar,newRow,run_newObj_alloc,Sem.run_pure,Result.andThen_ok]
 exact h _ (heap_alloc_new w _) ((Below.refl _ _).alloc (Nat.le_refl _) _) (by simp)
set_option maxRecDepth 100000 in
set_option maxHeartbeats 4000000 in
theorem new_any (w:World) (n:Nat) (h1:1≤n) (h40:n≤40) :
 Calls Tryz.prog 63 #[.int .i64 n] w fun e w'=>∃ b P,e=.returned (.tuple #[.pointer (some ⟨b,0,.none⟩),.nilIface])∧DAt w' b n (lq n) P∧Below w.heap.size w w'∧w.heap.size≤b∧w.heap.size≤P.kb∧w.heap.size≤P.nb∧w.heap.size≤P.sb∧P.svs=fw n:=by
 have e1:decide ((n:Int)<1)=false:=by simp;omega
 have e2:decide ((40:Int)<(n:Int))=false:=by simp;omega
 go_enter Tryz.func63,Tryz.ntmps63
 go_wp2_with fail
 refine wp_region_held (S:=fun _=>True) (by kernel_rfl) ?_
 refine wpG 0 (.int .i64 n) trivial ?_
 (try simp [Act.put])
 refine wpG 2 (.int .i64 n) trivial ?_
 (try simp [Act.put])
 refine wpG 4 (.int .i64 n) trivial ?_
 (try simp [Act.put])
 refine wpC 1 3 5 ?_ ?_ ?_
 ·refine wpS ?_
  refine zo (.tmp 11) rfl n h40 rfl ?_
  intro W1 A1 B1 s1
  refine ⟨trivial,?_⟩
  (try simp [Act.put])
  refine wpB 3 5 ?_ ?_
  ·refine wpS ?_
   refine zo (.tmp 13) rfl n h40 rfl ?_
   intro W2 A2 B2 s2
   refine ⟨trivial,?_⟩
   (try simp [Act.put])
   refine wpA 5 ?_
   ·refine wpS ?_
    refine wp_mkL (.tmp 15) rfl n h40 rfl ?_
    intro W3 A3 B3 s3
    refine ⟨trivial,?_⟩
    (try simp [Act.put])
    refine wpT 6 (.agg (hdV (lq n) (DP.mk (w.drew.heap.size) (W1.heap.size) (W2.heap.size) (fw n)) n).toArray) (.inl ⟨rfl,fun w' hw'=>?_⟩) trivial ?_
    ·go_simp;rfl
    (try simp [Act.put])
    refine wpA 7 (wpS ?_)
    refine wp_boxD (.tmp 17) rfl (hdV (lq n) (DP.mk (w.drew.heap.size) (W1.heap.size) (W2.heap.size) (fw n)) n) rfl ?_
    intro W4 A4 B4 s4
    refine ⟨trivial,?_⟩
    (try simp [Act.put])
    refine wpG 8 (.pointer (some ⟨W3.heap.size,0,.none⟩)) trivial ?_
    (try simp [Act.put])
    refine wpG 9 (.nilIface) trivial ?_
    (try simp [Act.put])
    refine wpZ ?_
    (try simp [Act.put])
    have sd:w.drew.heap.size=w.heap.size:=rfl
    have hA1:=((A1.later B2 (by omega)).later B3 (by omega)).later B4 (by omega)
    have hA2:=(A2.later B3 (by omega)).later B4 (by omega)
    have hA3:=A3.later B4 (by omega)
    have HD:Hid (DAt W4 W3.heap.size n (lq n) (DP.mk (w.drew.heap.size) (W1.heap.size) (W2.heap.size) (fw n))):=newAt h1 h40 hA1 hA2 hA3 A4 (by omega)
    have HB:Hid (Below w.heap.size w W4):=((((Below.refl w.heap.size w).drew.trans B1).trans (ul B2 (by omega))).trans (ul B3 (by omega))).trans (ul B4 (by omega))
    have HL:Hid (w.heap.size≤W3.heap.size∧w.heap.size≤w.drew.heap.size∧w.heap.size≤W1.heap.size∧w.heap.size≤W2.heap.size):=by show _∧_∧_∧_;omega
    clear sd hA1 hA2 hA3 A1 A2 A3 A4 B1 B2 B3 B4 s1 s2 s3 s4
    go_wp2
    go_ret2
    exact ⟨W3.heap.size,(DP.mk (w.drew.heap.size) (W1.heap.size) (W2.heap.size) (fw n)),rfl,HD.out,HB.out,HL.out.1,HL.out.2.1,HL.out.2.2.1,HL.out.2.2.2,rfl⟩
  ·refine wpS ?_
   refine wp_mkL (.tmp 15) rfl n h40 rfl ?_
   intro W2 A2 B2 s2
   refine ⟨trivial,?_⟩
   (try simp [Act.put])
   refine wpA 3 ?_
   ·refine wpS ?_
    refine zo (.tmp 13) rfl n h40 rfl ?_
    intro W3 A3 B3 s3
    refine ⟨trivial,?_⟩
    (try simp [Act.put])
    refine wpT 6 (.agg (hdV (lq n) (DP.mk (w.drew.heap.size) (W2.heap.size) (W1.heap.size) (fw n)) n).toArray) (.inl ⟨rfl,fun w' hw'=>?_⟩) trivial ?_
    ·go_simp;rfl
    (try simp [Act.put])
    refine wpA 7 (wpS ?_)
    refine wp_boxD (.tmp 17) rfl (hdV (lq n) (DP.mk (w.drew.heap.size) (W2.heap.size) (W1.heap.size) (fw n)) n) rfl ?_
    intro W4 A4 B4 s4
    refine ⟨trivial,?_⟩
    (try simp [Act.put])
    refine wpG 8 (.pointer (some ⟨W3.heap.size,0,.none⟩)) trivial ?_
    (try simp [Act.put])
    refine wpG 9 (.nilIface) trivial ?_
    (try simp [Act.put])
    refine wpZ ?_
    (try simp [Act.put])
    have sd:w.drew.heap.size=w.heap.size:=rfl
    have hA1:=((A1.later B2 (by omega)).later B3 (by omega)).later B4 (by omega)
    have hA2:=(A2.later B3 (by omega)).later B4 (by omega)
    have hA3:=A3.later B4 (by omega)
    have HD:Hid (DAt W4 W3.heap.size n (lq n) (DP.mk (w.drew.heap.size) (W2.heap.size) (W1.heap.size) (fw n))):=newAt h1 h40 hA1 hA3 hA2 A4 (by omega)
    have HB:Hid (Below w.heap.size w W4):=((((Below.refl w.heap.size w).drew.trans B1).trans (ul B2 (by omega))).trans (ul B3 (by omega))).trans (ul B4 (by omega))
    have HL:Hid (w.heap.size≤W3.heap.size∧w.heap.size≤w.drew.heap.size∧w.heap.size≤W2.heap.size∧w.heap.size≤W1.heap.size):=by show _∧_∧_∧_;omega
    clear sd hA1 hA2 hA3 A1 A2 A3 A4 B1 B2 B3 B4 s1 s2 s3 s4
    go_wp2
    go_ret2
    exact ⟨W3.heap.size,(DP.mk (w.drew.heap.size) (W2.heap.size) (W1.heap.size) (fw n)),rfl,HD.out,HB.out,HL.out.1,HL.out.2.1,HL.out.2.2.1,HL.out.2.2.2,rfl⟩
 ·refine wpS ?_
  refine zo (.tmp 13) rfl n h40 rfl ?_
  intro W1 A1 B1 s1
  refine ⟨trivial,?_⟩
  (try simp [Act.put])
  refine wpB 1 5 ?_ ?_
  ·refine wpS ?_
   refine zo (.tmp 11) rfl n h40 rfl ?_
   intro W2 A2 B2 s2
   refine ⟨trivial,?_⟩
   (try simp [Act.put])
   refine wpA 5 ?_
   ·refine wpS ?_
    refine wp_mkL (.tmp 15) rfl n h40 rfl ?_
    intro W3 A3 B3 s3
    refine ⟨trivial,?_⟩
    (try simp [Act.put])
    refine wpT 6 (.agg (hdV (lq n) (DP.mk (W1.heap.size) (w.drew.heap.size) (W2.heap.size) (fw n)) n).toArray) (.inl ⟨rfl,fun w' hw'=>?_⟩) trivial ?_
    ·go_simp;rfl
    (try simp [Act.put])
    refine wpA 7 (wpS ?_)
    refine wp_boxD (.tmp 17) rfl (hdV (lq n) (DP.mk (W1.heap.size) (w.drew.heap.size) (W2.heap.size) (fw n)) n) rfl ?_
    intro W4 A4 B4 s4
    refine ⟨trivial,?_⟩
    (try simp [Act.put])
    refine wpG 8 (.pointer (some ⟨W3.heap.size,0,.none⟩)) trivial ?_
    (try simp [Act.put])
    refine wpG 9 (.nilIface) trivial ?_
    (try simp [Act.put])
    refine wpZ ?_
    (try simp [Act.put])
    have sd:w.drew.heap.size=w.heap.size:=rfl
    have hA1:=((A1.later B2 (by omega)).later B3 (by omega)).later B4 (by omega)
    have hA2:=(A2.later B3 (by omega)).later B4 (by omega)
    have hA3:=A3.later B4 (by omega)
    have HD:Hid (DAt W4 W3.heap.size n (lq n) (DP.mk (W1.heap.size) (w.drew.heap.size) (W2.heap.size) (fw n))):=newAt h1 h40 hA2 hA1 hA3 A4 (by omega)
    have HB:Hid (Below w.heap.size w W4):=((((Below.refl w.heap.size w).drew.trans B1).trans (ul B2 (by omega))).trans (ul B3 (by omega))).trans (ul B4 (by omega))
    have HL:Hid (w.heap.size≤W3.heap.size∧w.heap.size≤W1.heap.size∧w.heap.size≤w.drew.heap.size∧w.heap.size≤W2.heap.size):=by show _∧_∧_∧_;omega
    clear sd hA1 hA2 hA3 A1 A2 A3 A4 B1 B2 B3 B4 s1 s2 s3 s4
    go_wp2
    go_ret2
    exact ⟨W3.heap.size,(DP.mk (W1.heap.size) (w.drew.heap.size) (W2.heap.size) (fw n)),rfl,HD.out,HB.out,HL.out.1,HL.out.2.1,HL.out.2.2.1,HL.out.2.2.2,rfl⟩
  ·refine wpS ?_
   refine wp_mkL (.tmp 15) rfl n h40 rfl ?_
   intro W2 A2 B2 s2
   refine ⟨trivial,?_⟩
   (try simp [Act.put])
   refine wpA 1 ?_
   ·refine wpS ?_
    refine zo (.tmp 11) rfl n h40 rfl ?_
    intro W3 A3 B3 s3
    refine ⟨trivial,?_⟩
    (try simp [Act.put])
    refine wpT 6 (.agg (hdV (lq n) (DP.mk (W2.heap.size) (w.drew.heap.size) (W1.heap.size) (fw n)) n).toArray) (.inl ⟨rfl,fun w' hw'=>?_⟩) trivial ?_
    ·go_simp;rfl
    (try simp [Act.put])
    refine wpA 7 (wpS ?_)
    refine wp_boxD (.tmp 17) rfl (hdV (lq n) (DP.mk (W2.heap.size) (w.drew.heap.size) (W1.heap.size) (fw n)) n) rfl ?_
    intro W4 A4 B4 s4
    refine ⟨trivial,?_⟩
    (try simp [Act.put])
    refine wpG 8 (.pointer (some ⟨W3.heap.size,0,.none⟩)) trivial ?_
    (try simp [Act.put])
    refine wpG 9 (.nilIface) trivial ?_
    (try simp [Act.put])
    refine wpZ ?_
    (try simp [Act.put])
    have sd:w.drew.heap.size=w.heap.size:=rfl
    have hA1:=((A1.later B2 (by omega)).later B3 (by omega)).later B4 (by omega)
    have hA2:=(A2.later B3 (by omega)).later B4 (by omega)
    have hA3:=A3.later B4 (by omega)
    have HD:Hid (DAt W4 W3.heap.size n (lq n) (DP.mk (W2.heap.size) (w.drew.heap.size) (W1.heap.size) (fw n))):=newAt h1 h40 hA3 hA1 hA2 A4 (by omega)
    have HB:Hid (Below w.heap.size w W4):=((((Below.refl w.heap.size w).drew.trans B1).trans (ul B2 (by omega))).trans (ul B3 (by omega))).trans (ul B4 (by omega))
    have HL:Hid (w.heap.size≤W3.heap.size∧w.heap.size≤W2.heap.size∧w.heap.size≤w.drew.heap.size∧w.heap.size≤W1.heap.size):=by show _∧_∧_∧_;omega
    clear sd hA1 hA2 hA3 A1 A2 A3 A4 B1 B2 B3 B4 s1 s2 s3 s4
    go_wp2
    go_ret2
    exact ⟨W3.heap.size,(DP.mk (W2.heap.size) (w.drew.heap.size) (W1.heap.size) (fw n)),rfl,HD.out,HB.out,HL.out.1,HL.out.2.1,HL.out.2.2.1,HL.out.2.2.2,rfl⟩
 ·refine wpS ?_
  refine wp_mkL (.tmp 15) rfl n h40 rfl ?_
  intro W1 A1 B1 s1
  refine ⟨trivial,?_⟩
  (try simp [Act.put])
  refine wpB 1 3 ?_ ?_
  ·refine wpS ?_
   refine zo (.tmp 11) rfl n h40 rfl ?_
   intro W2 A2 B2 s2
   refine ⟨trivial,?_⟩
   (try simp [Act.put])
   refine wpA 3 ?_
   ·refine wpS ?_
    refine zo (.tmp 13) rfl n h40 rfl ?_
    intro W3 A3 B3 s3
    refine ⟨trivial,?_⟩
    (try simp [Act.put])
    refine wpT 6 (.agg (hdV (lq n) (DP.mk (W1.heap.size) (W2.heap.size) (w.drew.heap.size) (fw n)) n).toArray) (.inl ⟨rfl,fun w' hw'=>?_⟩) trivial ?_
    ·go_simp;rfl
    (try simp [Act.put])
    refine wpA 7 (wpS ?_)
    refine wp_boxD (.tmp 17) rfl (hdV (lq n) (DP.mk (W1.heap.size) (W2.heap.size) (w.drew.heap.size) (fw n)) n) rfl ?_
    intro W4 A4 B4 s4
    refine ⟨trivial,?_⟩
    (try simp [Act.put])
    refine wpG 8 (.pointer (some ⟨W3.heap.size,0,.none⟩)) trivial ?_
    (try simp [Act.put])
    refine wpG 9 (.nilIface) trivial ?_
    (try simp [Act.put])
    refine wpZ ?_
    (try simp [Act.put])
    have sd:w.drew.heap.size=w.heap.size:=rfl
    have hA1:=((A1.later B2 (by omega)).later B3 (by omega)).later B4 (by omega)
    have hA2:=(A2.later B3 (by omega)).later B4 (by omega)
    have hA3:=A3.later B4 (by omega)
    have HD:Hid (DAt W4 W3.heap.size n (lq n) (DP.mk (W1.heap.size) (W2.heap.size) (w.drew.heap.size) (fw n))):=newAt h1 h40 hA2 hA3 hA1 A4 (by omega)
    have HB:Hid (Below w.heap.size w W4):=((((Below.refl w.heap.size w).drew.trans B1).trans (ul B2 (by omega))).trans (ul B3 (by omega))).trans (ul B4 (by omega))
    have HL:Hid (w.heap.size≤W3.heap.size∧w.heap.size≤W1.heap.size∧w.heap.size≤W2.heap.size∧w.heap.size≤w.drew.heap.size):=by show _∧_∧_∧_;omega
    clear sd hA1 hA2 hA3 A1 A2 A3 A4 B1 B2 B3 B4 s1 s2 s3 s4
    go_wp2
    go_ret2
    exact ⟨W3.heap.size,(DP.mk (W1.heap.size) (W2.heap.size) (w.drew.heap.size) (fw n)),rfl,HD.out,HB.out,HL.out.1,HL.out.2.1,HL.out.2.2.1,HL.out.2.2.2,rfl⟩
  ·refine wpS ?_
   refine zo (.tmp 13) rfl n h40 rfl ?_
   intro W2 A2 B2 s2
   refine ⟨trivial,?_⟩
   (try simp [Act.put])
   refine wpA 1 ?_
   ·refine wpS ?_
    refine zo (.tmp 11) rfl n h40 rfl ?_
    intro W3 A3 B3 s3
    refine ⟨trivial,?_⟩
    (try simp [Act.put])
    refine wpT 6 (.agg (hdV (lq n) (DP.mk (W2.heap.size) (W1.heap.size) (w.drew.heap.size) (fw n)) n).toArray) (.inl ⟨rfl,fun w' hw'=>?_⟩) trivial ?_
    ·go_simp;rfl
    (try simp [Act.put])
    refine wpA 7 (wpS ?_)
    refine wp_boxD (.tmp 17) rfl (hdV (lq n) (DP.mk (W2.heap.size) (W1.heap.size) (w.drew.heap.size) (fw n)) n) rfl ?_
    intro W4 A4 B4 s4
    refine ⟨trivial,?_⟩
    (try simp [Act.put])
    refine wpG 8 (.pointer (some ⟨W3.heap.size,0,.none⟩)) trivial ?_
    (try simp [Act.put])
    refine wpG 9 (.nilIface) trivial ?_
    (try simp [Act.put])
    refine wpZ ?_
    (try simp [Act.put])
    have sd:w.drew.heap.size=w.heap.size:=rfl
    have hA1:=((A1.later B2 (by omega)).later B3 (by omega)).later B4 (by omega)
    have hA2:=(A2.later B3 (by omega)).later B4 (by omega)
    have hA3:=A3.later B4 (by omega)
    have HD:Hid (DAt W4 W3.heap.size n (lq n) (DP.mk (W2.heap.size) (W1.heap.size) (w.drew.heap.size) (fw n))):=newAt h1 h40 hA3 hA2 hA1 A4 (by omega)
    have HB:Hid (Below w.heap.size w W4):=((((Below.refl w.heap.size w).drew.trans B1).trans (ul B2 (by omega))).trans (ul B3 (by omega))).trans (ul B4 (by omega))
    have HL:Hid (w.heap.size≤W3.heap.size∧w.heap.size≤W2.heap.size∧w.heap.size≤W1.heap.size∧w.heap.size≤w.drew.heap.size):=by show _∧_∧_∧_;omega
    clear sd hA1 hA2 hA3 A1 A2 A3 A4 B1 B2 B3 B4 s1 s2 s3 s4
    go_wp2
    go_ret2
    exact ⟨W3.heap.size,(DP.mk (W2.heap.size) (W1.heap.size) (w.drew.heap.size) (fw n)),rfl,HD.out,HB.out,HL.out.1,HL.out.2.1,HL.out.2.2.1,HL.out.2.2.2,rfl⟩
end Go.Proofs.YtpkhdihoijkamaaGreatDoor.D
