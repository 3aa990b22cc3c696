/- Several texts of this seat in one: DSet, DRes. No statement of the seat is proved here. -/
import Derived.Test.YtpkhdihoijkamaaGreatDoorWT
import Derived.Test.YtpkhdihoijkamaaGreatDoorZA03
set_option maxHeartbeats 4000000
namespace Go.Proofs.YtpkhdihoijkamaaGreatDoor.D
open Go.ChangeShapes Go.WideShapes Go.ChangeAt Go.RowKit Go.Deep
attribute [local go_sem] zc65
theorem wp_copy_run {o:Oper} {a:Act} {w:World} {K:Act→World→Prop} {Q:Exit→Act→World→Prop} (d s:Operand) (t t':TypeId)
 (ho:o.op=.call { callee:=.builtin .copy,args:=#[d,s],argTypes:=#[t,t'] }) (v u:Value) (hd:a.eval d=v) (hs:a.eval s=u) {v':Value} {w':World}
 (hr:(Builtin.copy_ #[t,t'] o.type #[v,u]).run Tryz.prog w=.ok v' w') (h:K (a.put o.dst v') w'):Oper.wp Tryz.prog o a w K Q:=by
 unfold Oper.wp execOp
 simp only [ho,resolve,invoke,builtin,Sem.run_bind,Sem.run_pure,Result.andThen_ok,List.map_toArray,List.map_cons,List.map_nil,hd,hs,hr]
 exact h
theorem run_copy_sec (w:World) (g h n:Nat) (cur cs:List Value) (ty:TypeId) (hg:At w g cur 148) (hs:At w h cs 148) (hl:cs.length=n*64) (hc:cur.length=n*64) (h1:∀ v ∈ cs,v.oneCell'=true) :
 (Builtin.copy_ #[142,142] ty #[.slice (some ⟨g,0,.none⟩) n n,.slice (some ⟨h,0,.none⟩) n n]).run Tryz.prog w=.ok (goInt n) (w.setRow g cs.toArray):=by
 have hld:=run_loadCells_list (P:=Tryz.prog) w ⟨h,0,.none⟩ cs (fun j v hj=>by rw [addr0,hs.cell];exact hj)
 have hst:=run_storeCells_at Tryz.prog g 0 148 cs 0 cur.toArray w hg (by simp;omega) h1
 have e:(cur.take 0 ++ cs ++ cur.drop (0+cs.length))=cs:=by rw [List.drop_of_length_le (by omega)];simp
 have hsz:=sz64
 have hmin:Nat.min n n=n:=Nat.min_self n
 simp only [Nat.add_zero] at hst
 rw [e] at hst
 cases hq:Tryz.prog.info? 148 with
 | none=>simp [hq] at hsz
 | some i =>
   have hi:i.size=64:=by simpa [hq] using hsz
   simp [Builtin.copy_,run_underlying Tryz.underlying142,Builtin.lenOf,Builtin.firstCells,sizeOf,typeInfo,hq,hi,hmin,←hl,hld,hst]
theorem at_row {w:World} {g:Nat} {cur cs:List Value} {T:TypeId} (h:At w g cur T):At (w.setRow g cs.toArray) g cs T:=by
 have:=setRow_heap w g cur.toArray cs.toArray T _ h
 exact this
def fw (n:Nat):List Value:=List.replicate n (.slice .none 0 0)
theorem zerosS_is (m:Nat):(Builtin.zeroCells (Value.slice .none 0 0).cells m).toList=fw m:=by
 refine List.ext_getElem? fun i=>?_
 simp only [Builtin.zeroCells,fw,Array.toList_map]
 rw [List.getElem?_map,List.getElem?_replicate]
 by_cases h:i<m
 ·simp [h,Value.cells,Nat.mod_one]
 ·simp [h,Value.cells]
theorem run_clearS (w:World) (g n:Nat) (cur:List Value) (hg:At w g cur 146) (hc:cur.length=n) (hn:0<n) (ty:TypeId) :
 (Builtin.clear_ #[143] ty #[.slice (some ⟨g,0,.none⟩) n n]).run Tryz.prog w=.ok (.tuple #[]) (w.setRow g (fw n).toArray):=by
 have hv:∀ w,(zeroValue 146).run Tryz.prog w=.ok (.slice .none 0 0) w:=Tryz.zeroValue146
 have hst:=run_storeCells_at Tryz.prog g 0 146 (fw n) 0 cur.toArray w hg (by simp [fw];omega) (fun v hv=>by rw [(List.mem_replicate.1 hv).2];rfl)
 have e:(cur.take 0 ++ fw n ++ cur.drop (0+(fw n).length))=fw n:=by rw [List.drop_of_length_le (by simp [fw];omega)];simp
 simp only [Nat.add_zero] at hst
 rw [e] at hst
 obtain ⟨k,rfl⟩:∃ k,n=k+1:=⟨n - 1,by omega⟩
 simp [Builtin.clear_,run_underlying Tryz.underlying143,hv,zerosS_is,hst]
def setD (D:DM) (n:Nat):DM:={ D with since:=List.replicate n [],next:=0 }
theorem ownW_nil (w:World):nk w (.slice .none 0 0) []:=⟨rfl,.inl ⟨rfl,rfl⟩⟩
theorem DAt.clean {w w':World} {b n:Nat} {D:DM} {P:DP} (h:DAt w b n D P) (hm:ae (Is P.sb) (Is P.sb) w w') (A:At w' P.sb (fw n) 146):DAt w' b n { D with since:=List.replicate n [] } { P with svs:=fw n }∧(∀ q,DF { P with svs:=fw n } b q→DF P b q):=by
 obtain ⟨n1,n2,n3,n4,n5,n6⟩:=h.ne1
 have ok:=h.ok
 have hnil:∀ v ∈ fw n,∀ k,v.ownBlock=some k→False:=fun v hv k hk=>by
  rw [(List.mem_replicate.1 hv).2] at hk;cases hk
 refine ⟨⟨⟨ok.k,ok.m,by simp,ok.n1,ok.n40,ok.kl,ok.ml,fun l hl=>?_,ok.nx,ok.lo,ok.hi⟩,hm.at h.hd (fun e=>n3 e.symm),hm.at h.k n5,hm.at h.m n6,A,by simp [fw],fun i l v h1 h2=>?_,h.ne1,fun v hv k hk=>(hnil v hv k hk).elim,fun i j v u k h1 _ h3 _=>(hnil v (List.mem_of_getElem? h1) k h3).elim⟩,?_⟩
 ·rw [(List.mem_replicate.1 hl).2];simp
 ·have e1:=(List.mem_replicate.1 (List.mem_of_getElem? h1)).2
  have e2:=(List.mem_replicate.1 (List.mem_of_getElem? h2)).2
  rw [e1,e2];exact ownW_nil w'
 ·rintro q (rfl|rfl|rfl|rfl|⟨v,hv,hk⟩)
  ·exact .inl rfl
  ·exact .inr (.inl rfl)
  ·exact .inr (.inr (.inl rfl))
  ·exact .inr (.inr (.inr (.inl rfl)))
  ·exact (hnil v hv q hk).elim
theorem settle_any {w:World} {b n:Nat} {D:DM} {P:DP} (h:DAt w b n D P) :
 Calls Tryz.prog 82 #[.pointer (some ⟨b,0,.none⟩)] w fun e w'=>e=.returned (.tuple #[])∧∃ P',DAt w' b n (setD D n) P'∧ae (DF P b) (DF P' b) w w':=by
 obtain ⟨c0,c1,c2,c3,c4,c5,c6⟩:=h.cells
 obtain ⟨f3,f4,f5,f6⟩:=h.froz
 have hn1:=h.ok.n1
 have hcl:=run_clearS w P.sb n P.svs h.s h.len hn1
 have hm1:ae (Is P.sb) (Is P.sb) w (w.setRow P.sb (fw n).toArray):=(ae.refl _ _).row (show Is P.sb P.sb from rfl) _
 obtain ⟨hd1,hf1⟩:=h.clean hm1 (at_row h.s)
 have c3b:=hd1.cells.2.2.2.1
 have f3b:=hd1.froz.1
 have A2:=hd1.hd.setCell_same 3 (.int .i64 0)
 have hm2:ae (Is b) (Is b) (w.setRow P.sb (fw n).toArray) ((w.setRow P.sb (fw n).toArray).setCell ⟨b,3,.none⟩ (.int .i64 0)):=(ae.refl _ _).one_set 3 _
 have ok:=hd1.ok
 have HD2:Hid (DAt ((w.setRow P.sb (fw n).toArray).setCell ⟨b,3,.none⟩ (.int .i64 0)) b n (setD D n) { P with svs:=fw n }) :=
  hd1.head hm2 A2 ⟨ok.k,ok.m,ok.s,ok.n1,ok.n40,ok.kl,ok.ml,ok.sl,by show 0<64;decide,ok.lo,ok.hi⟩ rfl rfl rfl
 have HM2:Hid (ae (DF P b) (DF { P with svs:=fw n } b) w ((w.setRow P.sb (fw n).toArray).setCell ⟨b,3,.none⟩ (.int .i64 0))) :=
  (hm1.mono (fun q hq=>.inr (.inr (.inr (.inl hq)))) (fun q hq=>.inl (hf1 q hq))).trans (hm2.mono (fun q hq=>.inl hq) (fun q hq=>.inl hq))
 generalize w.setRow P.sb (fw n).toArray=X at *
 clear hm1 hd1 hf1 A2 hm2 ok h c0 c1 c3 c4 c5 c6 f3 f4 f5 f6
 go_enter Tryz.func82,Tryz.ntmps82
 go_wp2
 refine bodyPost_end (v:=.tuple #[]) ?_ rfl ?_
 ·simp [results,Tryz.results82,go_sem]
 ·exact ⟨rfl,_,HD2.out,HM2.out⟩
def xu (D:DM) (n:Nat):DM:=if qj D=true then az D else setD { az D with kept:=(az D).now } n
theorem stepD_now (D:DM):(az D).now=D.now:=by
 unfold az;split;rfl;split;rfl;split;rfl;rfl
theorem acg (D:DM):(az D).kept=D.kept:=by
 unfold az;split;rfl;split;rfl;split;rfl;rfl
theorem acb (D:DM):(az D).since=D.since:=by
 unfold az;split;rfl;split;rfl;split;rfl;rfl
set_option maxRecDepth 100000 in
theorem flush_any {w:World} {b n:Nat} {D:DM} {P:DP} (h:DAt w b n D P) :
 Calls Tryz.prog 123 #[.pointer (some ⟨b,0,.none⟩)] w fun e w'=>e=.returned (ai (jo D))∧∃ P',DAt w' b n (xu D n) P'∧ae (DF P b) (DF P' b) w w':=by
 have HS:Hid (Calls Tryz.prog 157 #[.pointer (some ⟨b,0,.none⟩)] w fun e w'=>e=.returned (ai (jo D))∧DAt w' b n (az D) P∧ae (Is b) (Is b) w w'):=step_any h
 clear h
 cases hsb:qj D
 case true =>
  have HW:Hid (xu D n=az D):=by show _=_;simp [xu,hsb]
  have HSF:Hid (jo D=10):=by show _=_;simp [jo,hsb]
  clear hsb
  go_enter Tryz.func123,Tryz.ntmps123
  go_wp2_with fail
  refine HS.out.mono ?_
  rintro e w1 ⟨rfl,hd1,hm1⟩
  rw [HSF.out,show ai 10=.iface 96 (.int .i64 10) from rfl]
  have HD1:Hid (DAt w1 b n (az D) P):=hd1
  have HM1:Hid (ae (DF P b) (DF P b) w w1):=hm1.mono (fun k hk=>.inl hk) (fun k hk=>.inl hk)
  clear hd1 hm1
  go_wp2
  go_ret
  exact ⟨by rw [HSF.out];rfl,P,by rw [HW.out];exact HD1.out,HM1.out⟩
 have HW:Hid (xu D n=setD { az D with kept:=(az D).now } n):=by show _=_;simp [xu,hsb]
 have HSF:Hid (jo D=0):=by show _=_;simp [jo,hsb]
 clear hsb
 go_enter Tryz.func123,Tryz.ntmps123
 go_wp2_with fail
 refine HS.out.mono ?_
 rintro e w1 ⟨rfl,hd1,hm1⟩
 rw [HSF.out,show ai 0=.nilIface from rfl]
 have HD1:Hid (DAt w1 b n (az D) P):=hd1
 have HM1:Hid (ae (DF P b) (DF P b) w w1):=hm1.mono (fun k hk=>.inl hk) (fun k hk=>.inl hk)
 clear hd1 hm1 HS
 go_wp2_with fail
 go_cut [3] (fun _ wx=>DAt wx b n { az D with kept:=(az D).now } P∧ae (DF P b) (DF P b) w wx)
 case first =>
  have c0:w1.drew.cell? ⟨b,0,.none⟩=some (.slice (some ⟨P.kb,0,.none⟩) n n):=HD1.out.cells.1
  have c1:w1.drew.cell? ⟨b,1,.none⟩=some (.slice (some ⟨P.nb,0,.none⟩) n n):=HD1.out.cells.2.1
  refine wp_region_held (S:=(fun w'=>w'.cell? ⟨b,0,.none⟩=some (.slice (some ⟨P.kb,0,.none⟩) n n)∧w'.cell? ⟨b,1,.none⟩=some (.slice (some ⟨P.nb,0,.none⟩) n n))) (by kernel_rfl) ?_
  have HSX:Hid (w1.drew.cell? ⟨b,0,.none⟩=some (.slice (some ⟨P.kb,0,.none⟩) n n)∧w1.drew.cell? ⟨b,1,.none⟩=some (.slice (some ⟨P.nb,0,.none⟩) n n)):=⟨c0,c1⟩
  clear c0 c1
  refine wpG 0 (.pointer (some ⟨b,0,.none⟩)) HSX.out ?_
  refine wpG 1 (.pointer (some ⟨b,0,.none⟩)) HSX.out ?_
  refine wpG 2 (.pointer (some ⟨b,0,.none⟩)) HSX.out ?_
  refine wpT 3 (.slice (some ⟨P.kb,0,.none⟩) n n) (.inl ⟨rfl,fun w' hw'=>?_⟩) HSX.out ?_
  ·(have hc:=hw'.1;go_simp)
  refine wpG 4 (.pointer (some ⟨b,0,.none⟩)) HSX.out ?_
  refine wpG 5 (.pointer (some ⟨b,0,.none⟩)) HSX.out ?_
  refine wpG 6 (.pointer (some ⟨b,1,.none⟩)) HSX.out ?_
  refine wpT 7 (.slice (some ⟨P.nb,0,.none⟩) n n) (.inl ⟨rfl,fun w' hw'=>?_⟩) HSX.out ?_
  ·(have hc:=hw'.2;go_simp)
  simp [Act.put]
  refine wpA 8 ?_
  have hd:=HD1.out
  have hlk:=abj _ hd.ok.kl
  have hlm:=abj _ hd.ok.ml
  have hcp:=run_copy_sec w1.drew P.kb P.nb n (secs (az D).kept) (secs (az D).now) 3 hd.k hd.m (by rw [hlm,hd.ok.m];omega) (by rw [hlk,hd.ok.k];omega) (secs_one _)
  have A4:At (w1.drew.setRow P.kb (secs (az D).now).toArray) P.kb (secs (az D).now) 148:=at_row hd.k
  have hmv:ae (Is P.kb) (Is P.kb) w1 (w1.drew.setRow P.kb (secs (az D).now).toArray):=(ae.of ((Below.refl _ _).drew) (Nat.le_refl _):ae (Is P.kb) (Is P.kb) w1 w1.drew).row (show Is P.kb P.kb from rfl) _
  have hdn:=hd.keptS hmv (az D).now hd.ok.m hd.ok.ml A4
  have hmw:ae (DF P b) (DF P b) w (w1.drew.setRow P.kb (secs (az D).now).toArray):=HM1.out.trans (hmv.mono (fun q hq=>.inr (.inl hq)) (fun q hq=>.inl hq))
  have c0b:=hdn.cells.1
  have c1b:=hdn.cells.2.1
  generalize w1.drew.setRow P.kb (secs (az D).now).toArray=Y8 at *
  refine wpS ?_
  refine wp_copy_run (.tmp 12) (.tmp 16) _ _ rfl _ _ rfl rfl hcp ?_
  refine ⟨⟨c0b,c1b⟩,?_⟩
  (try simp [Act.put])
  refine wpZ ?_
  (try simp [Act.put])
  go_wp2_with fail
  go_meet
  exact ⟨hdn,hmw⟩
 case rest =>
 obtain ⟨hd8,hm8⟩:=hcut
 obtain ⟨W8,rfl⟩:∃ W,W=wc:=⟨_,rfl⟩
 have HST:Hid (Calls Tryz.prog 82 #[.pointer (some ⟨b,0,.none⟩)] W8 fun e w'=>e=.returned (.tuple #[])∧∃ P',DAt w' b n (setD { az D with kept:=(az D).now } n) P'∧ae (DF P b) (DF P' b) W8 w'):=settle_any hd8
 have HM8:Hid (ae (DF P b) (DF P b) w W8):=hm8
 clear hd8 hm8 HD1 HM1
 go_wp2_with fail
 refine HST.out.mono ?_
 rintro e W9 ⟨rfl,P',hd9,hm9⟩
 have HD9:Hid (DAt W9 b n (setD { az D with kept:=(az D).now } n) P'):=hd9
 have HM9:Hid (ae (DF P b) (DF P' b) w W9):=HM8.out.trans hm9
 clear hd9 hm9
 go_wp2
 go_ret
 exact ⟨by rw [HSF.out];rfl,P',by rw [HW.out];exact HD9.out,HM9.out⟩
end Go.Proofs.YtpkhdihoijkamaaGreatDoor.D
namespace Go.Proofs.YtpkhdihoijkamaaGreatDoor.D
open Go.ChangeShapes Go.WideShapes Go.ChangeAt Go.RowKit Go.Deep
attribute [local go_sem] zc65
def bitB (keep:Int) (b:Nat):Bool:=bits .and .u64 (keep / 2 ^ b) 1 == 1
def resS (keep:Int) (s:Sec) (l:List Wr):Sec:=l.foldl (fun s x=>if bitB keep x.bit=true then x.data else s) s
def resD (D:DM) (n:Nat) (keep:Int):DM:={ kept:=D.kept.zipWith (resS keep) D.since,now:=D.kept.zipWith (resS keep) D.since,since:=List.replicate n [],next:=0,armed:=false,left:=D.left,down:=false }
end Go.Proofs.YtpkhdihoijkamaaGreatDoor.D
