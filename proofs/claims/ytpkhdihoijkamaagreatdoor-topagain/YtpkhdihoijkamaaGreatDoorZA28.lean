/- Several texts of this seat in one: UCount, GLed, UDlv, UCmd, LastZ. No statement of the seat is proved here. -/
import Derived.Test.YtpkhdihoijkamaaGreatDoorWT
import Derived.Test.YtpkhdihoijkamaaGreatDoorZA27
import Derived.Test.YtpkhdihoijkamaaGreatDoorZA26
import Derived.Test.YtpkhdihoijkamaaGreatDoorZA01
import Derived.Test.YtpkhdihoijkamaaGreatDoorZA09
import Derived.Test.YtpkhdihoijkamaaGreatDoorRows
import Derived.OrdersHeld
set_option maxHeartbeats 16000000
set_option maxRecDepth 100000
namespace Go.Proofs.YtpkhdihoijkamaaGreatDoor.U
open Go.ChangeShapes Go.WideShapes Go.ChangeAt Go.RowKit Go.Deep Go.Maps
open Go.Proofs.YtpkhdihoijkamaaGreatDoor.D
structure MOK (M:TM) (m:ed):Prop where
 d0:0≤m.dst
 d3:m.dst<3
 k8:m.k<8
 t1:1≤m.tag
 tn:m.tag≤M.dn.length
theorem count_any {w0 w:World} {t:Nat} {M:TM} {p:TP} (h:aa w0 w t M p) (m:ed) (hm:MOK M m) (hdn:M.dn.length≤1000000) (hv0:0≤xe M m.tag) (hv8:xe M m.tag<8) (hW:Maps.size M.W<900) :
 Calls Tryz.prog 59 #[.pointer (some ⟨t,0,.none⟩),.agg m.vs.toArray] w fun r w'=>r=.returned (.tuple #[])∧∃ p',aa w0 w' t (qw M m) p'∧p'.k=p.k∧p'.b=p.b∧ae p.F p'.F w w':=by
 obtain ⟨X,hX,a0,bX,sX⟩:=Go.Proofs.YtpkhdihoijkamaaGreatDoor.D.one w (.cells m.vs.toArray 116)
 have A3:At X w.heap.size m.vs 116:=a0
 have HT:Hid (aa w0 X t M p):=h.later bX
 have HM:Hid (ae p.F p.F w X):=ae.of bX (Nat.le_refl _)
 have hoff:¬p.F w.heap.size:=fun f=>by have:=h.foot _ f;omega
 have HWF:Hid ((Lit.int .i64 m.tag).wf=true):=WalkArith.wf_i64 (by have:=hm.t1;have:=hm.tn;omega)
 have HMO:Hid (MOK M m):=hm
 have HV:Hid (0≤atW M.W m.tag∧atW M.W m.tag<8):=⟨hv0,hv8⟩
 have HSZ:Hid (Maps.size M.W<900∧M.dn.length≤1000000):=⟨hW,hdn⟩
 clear a0 bX sX h hm hv0 hv8 hW hdn
 go_enter Tryz.func59,Tryz.ntmps59
 go_upto_region 1 with fail
 rw [←hX]
 clear hX
 obtain ⟨b3,hb3⟩:∃ b3,w.heap.size=b3:=⟨_,rfl⟩
 rw [hb3] at A3 hoff ⊢
 clear hb3
 refine ql (S:=fun w'=>aa w0 w' t M p∧At w' b3 m.vs 116) (by kernel_rfl) ?_
 intro V hV bV sV
 have HS:Hid (aa w0 V t M p∧At V b3 m.vs 116):=⟨HT.out.later bV,A3.later bV A3.lt⟩
 replace HM:Hid (ae p.F p.F w V):=HM.out.trans (ae.of bV (Nat.le_refl _))
 have HO:Hid (¬p.F b3):=hoff
 clear hV bV sV A3 hoff HT X
 refine wpG 0 (.pointer (some ⟨t,0,.none⟩)) HS.out ?_
 refine wpG 1 (.pointer (some ⟨t,0,.none⟩)) HS.out ?_
 refine wpG 2 (.pointer (some ⟨t,84,.none⟩)) HS.out ?_
 (try simp [Act.put])
 refine wpT 3 (.map (some p.m)) (.inl ⟨rfl,fun w' hw'=>?_⟩) HS.out ?_
 ·have hc:w'.cell? ⟨t,84,.none⟩=some (.map (some p.m)):=hw'.1.cells.2.2.1;go_simp
 refine wpG 4 (.pointer (some ⟨b3,5,.none⟩)) HS.out ?_
 refine wpT 5 (.int .i64 m.tag) (.inl ⟨rfl,fun w' hw'=>?_⟩) HS.out ?_
 ·have hc:w'.cell? ⟨b3,5,.none⟩=some (.int .i64 m.tag):=hw'.2.cell 5;go_simp
 (try simp [Act.put])
 refine wpT 6 (.tuple #[.int .u64 (atW M.W m.tag),.bool (Maps.has M.W (.int .i64 m.tag))]) (.inl ⟨rfl,fun w' hw'=>?_⟩) HS.out ?_
 ·exact exec_lookup (map_look hw'.1.mp HWF.out).1 rfl rfl
 refine wpG 7 (.tuple #[.int .u64 (atW M.W m.tag),.bool (Maps.has M.W (.int .i64 m.tag))]) HS.out ?_
 refine wpG 8 (.int .u64 (atW M.W m.tag)) HS.out ?_
 (try simp [Act.put])
 refine wpG 9 (.bool (Maps.has M.W (.int .i64 m.tag))) HS.out ?_
 refine wpG 10 (.int .u64 (atW M.W m.tag)) HS.out ?_
 refine wpG 11 (.bool (Maps.has M.W (.int .i64 m.tag))) HS.out ?_
 (try simp [Act.put])
 refine wpZ ?_
 (try simp [Act.put])
 cases hh:Maps.has M.W (.int .i64 m.tag)
 case false =>
  have HX:Hid (qw M m=M):=by show _=_;unfold qw;rw [if_neg (by rw [hh];simp)]
  clear hh
  go_wp2
  refine bodyPost_ret (v:=.tuple #[]) ?_ rfl ?_
  ·simp [results,Tryz.results59,go_sem]
  ·exact ⟨rfl,p,by rw [HX.out];exact HS.out.1,rfl,rfl,HM.out⟩
 have HH:Hid (Maps.has M.W (.int .i64 m.tag)=true):=hh
 obtain ⟨x,hx⟩:∃ x,atW M.W m.tag=x:=⟨_,rfl⟩
 have HXX:Hid (atW M.W m.tag=x):=hx
 rw [hx] at HV ⊢
 clear hx hh
 have hd:m.dst=0∨m.dst=1∨m.dst=2:=by have:=HMO.out.d0;have:=HMO.out.d3;omega
 have c0:V.cell? ⟨b3,0,.none⟩=some (.int .i64 m.dst):=HS.out.2.cell 0
 obtain ⟨K,hK⟩:∃ K:Int,(2:Int) ^ m.dst.toNat=K:=⟨_,rfl⟩
 have hwr:IntKind.u64.wrap K=K:=by rw [←hK];rcases hd with e|e|e <;> rw [e] <;> rfl
 have hy0:0≤bits .or .u64 x K∧bits .or .u64 x K<8:=by
  rw [←hK]
  rcases hd with e|e|e <;> rw [e]
  ·exact or8 x 1 HV.out.1 HV.out.2 (by decide)
  ·exact or8 x 2 HV.out.1 HV.out.2 (by decide)
  ·exact or8 x 4 HV.out.1 HV.out.2 (by decide)
 obtain ⟨y,hy⟩:∃ y,bits .or .u64 x K=y:=⟨_,rfl⟩
 have HY:Hid (bitOr (xe M m.tag) m.dst=y):=by show _=_;rw [aca,HXX.out];unfold bitOr;rw [hK];exact hy
 rw [hy] at hy0
 have HYB:Hid (0≤y∧y<8):=hy0
 clear hy0
 go_wp2_with fail
 refine (ones_any y HYB.out.1 HYB.out.2 V).mono ?_
 rintro r W ⟨rfl,hW⟩
 obtain rfl:=hW.symm
 clear hy hd hwr hK
 by_cases ho:ones y<2
 ·have hI:((ones y:Nat):Int)<2:=by omega
  have HX:Hid (qw M m={ M with W:=M.W.put (.int .i64 m.tag) (.lit (.int .u64 y)) }):=by show _=_;unfold qw;rw [if_pos HH.out,HY.out,if_pos ho]
  clear ho
  go_upto_region 5 with fail
  refine ql (S:=fun w'=>At w' b3 m.vs 116∧w'.cell? ⟨t,84,.none⟩=some (.map (some p.m))) (by kernel_rfl) ?_
  intro V2 hV bV sV
  have HT2:Hid (aa w0 V2 t M p):=HS.out.1.later bV
  have HS2:Hid (At V2 b3 m.vs 116∧V2.cell? ⟨t,84,.none⟩=some (.map (some p.m))):=⟨HS.out.2.later bV HS.out.2.lt,HT2.out.cells.2.2.1⟩
  replace HM:Hid (ae p.F p.F w V2):=HM.out.trans (ae.of bV (Nat.le_refl _))
  clear hV bV sV HS c0
  refine wpG 0 (.pointer (some ⟨t,0,.none⟩)) HS2.out ?_
  refine wpG 1 (.pointer (some ⟨t,0,.none⟩)) HS2.out ?_
  refine wpG 2 (.pointer (some ⟨t,84,.none⟩)) HS2.out ?_
  (try simp [Act.put])
  refine wpT 3 (.map (some p.m)) (.inl ⟨rfl,fun w' hw'=>?_⟩) HS2.out ?_
  ·have hc:w'.cell? ⟨t,84,.none⟩=some (.map (some p.m)):=hw'.2;go_simp
  refine wpG 4 (.pointer (some ⟨b3,5,.none⟩)) HS2.out ?_
  refine wpT 5 (.int .i64 m.tag) (.inl ⟨rfl,fun w' hw'=>?_⟩) HS2.out ?_
  ·have hc:w'.cell? ⟨b3,5,.none⟩=some (.int .i64 m.tag):=hw'.1.cell 5;go_simp
  (try simp [Act.put])
  refine wpG 6 (.int .u64 y) HS2.out ?_
  (try simp [Act.put])
  refine wpA 7 (wpS ?_)
  obtain ⟨W2,hrun,hM2,mM⟩:=map_put HT2.out.mp HWF.out (wf_u8 HYB.out.1 HYB.out.2) (by have:=HSZ.out.1;omega)
  have hT3:=HT2.out.map mM hM2
  have HS3:Hid (At W2 b3 m.vs 116∧W2.cell? ⟨t,84,.none⟩=some (.map (some p.m))):=⟨mM.at HS2.out.1 (fun f=>HO.out (by rw [show b3=p.m from f];show p.col p.m≠0;rw [HT2.out.cM];decide)),hT3.1.cells.2.2.1⟩
  refine wp_putM _ _ _ _ rfl rfl rfl rfl hrun ?_
  refine ⟨HS3.out,?_⟩
  (try simp [Act.put])
  refine wpZ ?_
  (try simp [Act.put])
  have HR:Hid (aa w0 W2 t { M with W:=M.W.put (.int .i64 m.tag) (.lit (.int .u64 y)) } p∧ae p.F p.F w W2):=⟨hT3.1,HM.out.trans hT3.2⟩
  clear hrun hM2 mM hT3
  go_wp2
  refine bodyPost_ret (v:=.tuple #[]) ?_ rfl ?_
  ·simp [results,Tryz.results59,go_sem]
  ·exact ⟨rfl,p,by rw [HX.out];exact HR.out.1,rfl,rfl,HR.out.2⟩
 ·have hI:¬((ones y:Nat):Int)<2:=by omega
  have HX:Hid (qw M m={ M with W:=M.W.del (.int .i64 m.tag),dn:=M.dn.set (m.tag.toNat - 1) true }):=by show _=_;unfold qw;rw [if_pos HH.out,HY.out,if_neg ho]
  clear ho
  go_upto_region 6 with fail
  refine ql (S:=fun w'=>At w' b3 m.vs 116∧w'.cell? ⟨t,84,.none⟩=some (.map (some p.m))) (by kernel_rfl) ?_
  intro V2 hV bV sV
  have HT2:Hid (aa w0 V2 t M p):=HS.out.1.later bV
  have HS2:Hid (At V2 b3 m.vs 116∧V2.cell? ⟨t,84,.none⟩=some (.map (some p.m))):=⟨HS.out.2.later bV HS.out.2.lt,HT2.out.cells.2.2.1⟩
  replace HM:Hid (ae p.F p.F w V2):=HM.out.trans (ae.of bV (Nat.le_refl _))
  clear hV bV sV HS c0
  refine wpG 0 (.pointer (some ⟨t,0,.none⟩)) HS2.out ?_
  refine wpG 1 (.pointer (some ⟨t,0,.none⟩)) HS2.out ?_
  refine wpG 2 (.pointer (some ⟨t,84,.none⟩)) HS2.out ?_
  (try simp [Act.put])
  refine wpT 3 (.map (some p.m)) (.inl ⟨rfl,fun w' hw'=>?_⟩) HS2.out ?_
  ·have hc:w'.cell? ⟨t,84,.none⟩=some (.map (some p.m)):=hw'.2;go_simp
  refine wpG 4 (.pointer (some ⟨b3,5,.none⟩)) HS2.out ?_
  refine wpT 5 (.int .i64 m.tag) (.inl ⟨rfl,fun w' hw'=>?_⟩) HS2.out ?_
  ·have hc:w'.cell? ⟨b3,5,.none⟩=some (.int .i64 m.tag):=hw'.1.cell 5;go_simp
  (try simp [Act.put])
  refine wpA 6 (wpS ?_)
  obtain ⟨W2,hrun,hM2,mM⟩:=map_del HT2.out.mp HWF.out 0
  have hT3:=HT2.out.map mM hM2
  have HS3:Hid (At W2 b3 m.vs 116∧W2.cell? ⟨t,84,.none⟩=some (.map (some p.m))):=⟨mM.at HS2.out.1 (fun f=>HO.out (by rw [show b3=p.m from f];show p.col p.m≠0;rw [HT2.out.cM];decide)),hT3.1.cells.2.2.1⟩
  refine wp_delM _ _ _ _ rfl rfl rfl hrun ?_
  refine ⟨HS3.out,?_⟩
  (try simp [Act.put])
  refine wpZ ?_
  (try simp [Act.put])
  have HT4:Hid (aa w0 W2 t { M with W:=M.W.del (.int .i64 m.tag) } p):=hT3.1
  replace HM:Hid (ae p.F p.F w W2):=HM.out.trans hT3.2
  have HA4:Hid (At W2 b3 m.vs 116):=HS3.out.1
  clear hrun hM2 mM hT3 HS3 HT2 HS2
  obtain ⟨n,hn⟩:∃ n,M.dn.length=n:=⟨_,rfl⟩
  have hT0:=HMO.out.t1
  have hTn:=HMO.out.tn
  obtain ⟨j,hj⟩:∃ j,m.tag.toNat - 1=j:=⟨_,rfl⟩
  have hjn:j<n:=by omega
  have hjt:m.tag=(j:Int)+1:=by omega
  obtain ⟨g,cap,cur,hdv,hg,hnc,hcm,hcs,_⟩:=HT4.out.dl.some (by show 0<M.dn.length;omega)
  have hdv':p.dv=.slice (some ⟨g,0,.none⟩) n cap:=by rw [←hn];exact hdv
  have HJ:Hid (IntKind.wrap .i64 (m.tag - 1)=(j:Int)):=by show IntKind.wrap .i64 (m.tag - 1)=(j:Int);have:=HSZ.out.2;rw [IntKind.wrap_i64];omega
  have HJJ:Hid (m.tag.toNat - 1=j):=hj
  have HDV:Hid (p.dv=.slice (some ⟨g,0,.none⟩) n cap):=hdv'
  have HNN:Hid (M.dn.length=n):=hn
  have HG:Hid (At W2 g cur.toList 4∧j<cur.toList.length):=⟨by show _=_;simpa using hg,by have h9:M.dn.length≤cap:=hnc;simp only [Array.length_toList];rw [hcs];omega⟩
  clear hdv hg hnc hcm hcs hT0 hTn hj hjt hdv' hn
  go_upto_region 7 with fail
  refine ql (S:=fun w'=>At w' b3 m.vs 116∧w'.cell? ⟨t,85,.none⟩=some (.slice (some ⟨g,0,.none⟩) n cap)) (by kernel_rfl) ?_
  intro V3 hV bV sV
  have HT5:Hid (aa w0 V3 t { M with W:=M.W.del (.int .i64 m.tag) } p):=HT4.out.later bV
  have HS5:Hid (At V3 b3 m.vs 116∧V3.cell? ⟨t,85,.none⟩=some (.slice (some ⟨g,0,.none⟩) n cap)):=⟨HA4.out.later bV HA4.out.lt,by rw [←HDV.out];exact HT5.out.cells.2.2.2.1⟩
  replace HM:Hid (ae p.F p.F w V3):=HM.out.trans (ae.of bV (Nat.le_refl _))
  replace HG:Hid (At V3 g cur.toList 4∧j<cur.toList.length):=⟨HG.out.1.later bV HG.out.1.lt,HG.out.2⟩
  clear hV bV sV HT4 HA4
  refine wpG 0 (.pointer (some ⟨t,0,.none⟩)) HS5.out ?_
  refine wpG 1 (.pointer (some ⟨t,0,.none⟩)) HS5.out ?_
  refine wpG 2 (.pointer (some ⟨t,85,.none⟩)) HS5.out ?_
  (try simp [Act.put])
  refine wpT 3 (.slice (some ⟨g,0,.none⟩) n cap) (.inl ⟨rfl,fun w' hw'=>?_⟩) HS5.out ?_
  ·have hc:w'.cell? ⟨t,85,.none⟩=some (.slice (some ⟨g,0,.none⟩) n cap):=hw'.2;go_simp
  refine wpG 4 (.pointer (some ⟨b3,5,.none⟩)) HS5.out ?_
  refine wpT 5 (.int .i64 m.tag) (.inl ⟨rfl,fun w' hw'=>?_⟩) HS5.out ?_
  ·have hc:w'.cell? ⟨b3,5,.none⟩=some (.int .i64 m.tag):=hw'.1.cell 5;go_simp
  (try simp [Act.put])
  refine wpT 6 (.int .i64 (j:Int)) (.inl ⟨rfl,fun w' hw'=>?_⟩) HS5.out ?_
  ·go_simp;exact HJ.out
  refine wpG 7 (.pointer (some ⟨g,j,.none⟩)) HS5.out ?_
  (try simp [Act.put])
  refine wpA 8 ?_
  have hst:=At.store1 HG.out.1 (T:=4) (i:=j) (v:=.bool true) (by kernel_rfl) HG.out.2 rfl rfl
  have hob:ObX p.dv g:=by rw [HDV.out];rfl
  have mD:ae (ObX p.dv) (ObX p.dv) V3 (V3.setCell ⟨g,j,.none⟩ (.bool true)):=(ae.refl _ _).set hob j _
  have hox:ek 4 1 V3 (.slice (some ⟨g,0,.none⟩) n cap) n (M.dn.map Value.bool):=by
   have:=HT5.out.dl
   rw [HDV.out,show ({ M with W:=M.W.del (.int .i64 m.tag) }:TM).dn.length=n from HNN.out] at this
   exact this
  have hox2:=hox.set (g:=g) (j:=j) rfl (.bool true)
  have hT6:=HT5.out.dset mD (dn:=M.dn.set j true) (by rw [List.length_set,HNN.out,HDV.out,List.map_set];exact hox2)
  have HR:Hid (aa w0 (V3.setCell ⟨g,j,.none⟩ (.bool true)) t { M with W:=M.W.del (.int .i64 m.tag),dn:=M.dn.set (m.tag.toNat - 1) true } p∧ae p.F p.F w (V3.setCell ⟨g,j,.none⟩ (.bool true))):=⟨by rw [HJJ.out];exact hT6.1,HM.out.trans hT6.2⟩
  have HS6:Hid (At (V3.setCell ⟨g,j,.none⟩ (.bool true)) b3 m.vs 116∧(V3.setCell ⟨g,j,.none⟩ (.bool true)).cell? ⟨t,85,.none⟩=some (.slice (some ⟨g,0,.none⟩) n cap)) :=
   ⟨hT6.2.at HS5.out.1 HO.out,by rw [←HDV.out];exact hT6.1.cells.2.2.2.1⟩
  refine Go.Proofs.YtpkhdihoijkamaaGreatDoor.D.ma hst rfl rfl rfl rfl ⟨HS6.out,?_⟩
  clear hst hob mD hox hox2 hT6
  refine wpZ ?_
  (try simp [Act.put])
  go_wp2
  refine bodyPost_end (v:=.tuple #[]) ?_ rfl ?_
  ·simp [results,Tryz.results59,go_sem]
  ·exact ⟨rfl,p,by rw [HX.out];exact HR.out.1,rfl,rfl,HR.out.2⟩
end Go.Proofs.YtpkhdihoijkamaaGreatDoor.U
namespace Go.Proofs.YtpkhdihoijkamaaGreatDoor.G
set_option maxRecDepth 100000
open Go.Proofs.YtpkhdihoijkamaaGreatDoor.D
open Go.ChangeShapes Go.WideShapes Go.ChangeAt Go.RowKit Go.Deep
theorem fenG_ok {rs:List Rep} {up:List Bool} (h:GOK rs up) (e:Int):GOK (d9 rs up e) up:=by
 unfold d9;split
 ·exact foldR_ok _ _ _ h
 ·exact h
theorem syncG_ok {rs:List Rep} {up:List Bool} (h:GOK rs up) (e i:Int):GOK (kz rs up e i) up:=by
 unfold kz;split
 ·exact h.set _ (yj _)
 ·exact h
theorem delG_ok {rs:List Rep} {up:List Bool} (h:GOK rs up) (i:Int) (k:Nat) (c:Cel):GOK (ny rs up i k c) up:=by
 unfold ny;split
 ·rename_i hu
  obtain ⟨m,rfl,hm⟩:=upB_in hu
  have hml:m<rs.length:=by rw [h.len];exact hm
  rw [aao hml]
  exact h.set _ (admL_ok (h.ok _ (List.getElem_mem hml)))
 ·exact h
theorem sz49:(Tryz.prog.info? 62).map (·.size)=some 19:=by kernel_rfl
theorem und49:∃ d,Tryz.prog.underlying 62=some d∧d.isRow=true:=⟨_,Tryz.underlying62,rfl⟩
theorem load_act {X:World} {b o:Nat} {x:ig} (h:X.rangeAt b o x.vs) :
 (Instr.loadAt 62 (.pointer (some ⟨b,o,.none⟩))).run Tryz.prog X=.ok (.agg x.vs.toArray) X:=by
 obtain ⟨d,hd,hr⟩:=und49
 exact run_loadAt_mid X b o _ x.vs d h hd hr sz49
end Go.Proofs.YtpkhdihoijkamaaGreatDoor.G
namespace Go.Proofs.YtpkhdihoijkamaaGreatDoor.U
open Go.ChangeShapes Go.WideShapes Go.ChangeAt Go.RowKit Go.Deep Go.Maps
open Go.Proofs.YtpkhdihoijkamaaGreatDoor.D
attribute [local go_sem] zc78
structure TI (M:TM) (N:Nat):Prop where
 fl:∀ m ∈ M.fly,MOK M m
 wv:∀ tag,0≤xe M tag∧xe M tag<8
 ws:Maps.size M.W≤6
 fn:M.fly.length≤40
 dn:M.dn.length≤N
 n0:0≤M.nm
 nn:M.nm≤M.dn.length
 bl:∀ j,j<4→(M.L j).length≤5
theorem undMs:∃ d,Tryz.prog.underlying 116=some d∧d.isRow=true:=⟨_,Tryz.underlying116,rfl⟩
theorem msgs_get:∀ (l:List ed) (i:Nat) (hi:i<l.length) (j:Nat),j<6→(gu l)[i*6+j]? = (l[i].vs)[j]?
 | [],i,h,_,_=>by simp at h
 | m :: l,0,_,j,hj=>by
   unfold gu
   rw [List.flatMap_cons,List.getElem?_append_left (by rw [ed.len];omega)]
   simp
 | m :: l,i+1,h,j,hj=>by
   have ih:=msgs_get l i (by simpa using h) j hj
   unfold gu at ih ⊢
   rw [List.flatMap_cons,List.getElem?_append_right (by rw [ed.len];omega),ed.len,show (i+1)*6+j - 6=i*6+j by omega,ih]
   simp
theorem ab3 {X:World} {b o:Nat} {m:ed} (h:X.rangeAt b o m.vs):(Instr.loadAt 116 (.pointer (some ⟨b,o,.none⟩))).run Tryz.prog X=.ok (.agg m.vs.toArray) X:=by
 obtain ⟨d,hd,hr⟩:=undMs
 exact run_loadAt_mid X b o _ m.vs d h hd hr info6
theorem load_ms {X:World} {b:Nat} {T:TypeId} {m:ed} (h:At X b m.vs T):(Instr.loadAt 116 (.pointer (some ⟨b,0,.none⟩))).run Tryz.prog X=.ok (.agg m.vs.toArray) X:=ab3 h.whole
theorem newMs (m:ed) (W:World):∃ Y,(Instr.storeAt 116 (.pointer (some ⟨W.heap.size,0,.none⟩)) (.agg m.vs.toArray)).run Tryz.prog (W.alloc (.cells #[.int .i64 0,.int .i64 0,.int .i64 0,.int .i64 0,.string ⟨#[]⟩,.int .i64 0] 116))=.ok () Y∧At Y W.heap.size m.vs 116∧Below W.heap.size W Y:=by
 obtain ⟨X,hX,a0,bX,_⟩:=Go.Proofs.YtpkhdihoijkamaaGreatDoor.D.one W (.cells z6.toArray 116)
 have A:At X W.heap.size z6 116:=a0
 have A2:=At.set m.vs 0 _ _ A
 rw [ik _ _ (by rw [ed.len];rfl)] at A2
 subst hX
 exact ⟨_,run_storeAt_mid _ _ 0 _ m.vs.toArray (A.there 0 6 (by decide)) info6 (all_oneCell_toArray m.one),A2,below_setCells (Nat.le_refl _) _ _ _ bX⟩
theorem aa.msAt {w0 w:World} {t:Nat} {M:TM} {p:TP} (h:aa w0 w t M p) (i:Nat) (hi:i<M.fly.length):∃ g cap,p.fv=.slice (some ⟨g,0,.none⟩) M.fly.length cap∧w.rangeAt g (i*6) (M.fly[i]).vs:=by
 obtain ⟨g,cap,cur,hfv,_⟩:=h.fl.some (by omega)
 have ho:=h.fl
 rw [hfv] at ho
 refine ⟨g,cap,hfv,fun j v hj=>?_⟩
 have hj6:j<6:=by have:=(List.getElem?_eq_some_iff.1 hj).1;rwa [ed.len] at this
 obtain ⟨g',e,hc⟩:=ho.cell (j:=i*6+j) (by omega)
 simp only [Option.some.injEq,Addr.mk.injEq,and_true] at e
 subst e
 rw [hc,msgs_get _ i hi j hj6]
 exact hj
theorem delG_okU {rs:List G.Rep} {up:List Bool} (h:G.GOK rs up) (i:Int) (k:Nat) (c:G.Cel):G.GOK (G.ny rs up i k c) up:=G.delG_ok h i k c
theorem adv {w0 w:World} {t:Nat} {M:TM} {p:TP} (h:aa w0 w t M p) {N:Nat} (hI:TI M N) (hN:N≤1000000) (i:Int) (stays:Bool) :
 Calls Tryz.prog 25 #[.pointer (some ⟨t,0,.none⟩),.int .i64 i,.bool stays] w fun r w'=>r=.returned (.tuple #[.bool (l7 M i stays).1,ai (l7 M i stays).2.1])∧∃ p',aa w0 w' t (l7 M i stays).2.2 p'∧p'.k=p.k∧p'.b=p.b∧ae p.F p'.F w w':=by
 have HF:Hid (Calls Tryz.prog 56 #[.pointer (some ⟨t,0,.none⟩),.int .i64 i] w fun r w'=>r=.returned (.bool (decide (0≤i) && decide (i<M.fly.length)))∧w'=w):=h.fliesB i
 have HT:Hid (aa w0 w t M p):=h
 have HI:Hid (TI M N∧N≤1000000):=⟨hI,hN⟩
 clear h hI hN
 by_cases hi:0≤i∧i<M.fly.length
 case neg =>
  rw [show (decide (0≤i) && decide (i<(M.fly.length:Int)))=false by simp;omega] at HF
  have HX:Hid (l7 M i stays=(false,8,M)):=by
   show _=_
   unfold l7
   have:(if 0≤i then M.fly[i.toNat]? else .none)=.none:=by
    by_cases h0:0≤i
    ·rw [if_pos h0];exact List.getElem?_eq_none (by omega)
    ·rw [if_neg h0]
   rw [this]
  clear hi
  go_enter Tryz.func25,Tryz.ntmps25
  go_wp2_with fail
  refine HF.out.mono ?_
  rintro r W ⟨rfl,hW⟩
  obtain rfl:=hW.symm
  go_wp2
  go_ret2
  exact ⟨by rw [HX.out];rfl,p,by rw [HX.out];exact HT.out,rfl,rfl,ae.refl _ _⟩
 rw [show (decide (0≤i) && decide (i<(M.fly.length:Int)))=true by simp;omega] at HF
 obtain ⟨j,rfl⟩:∃ j:Nat,i=j:=⟨i.toNat,by omega⟩
 obtain ⟨n,hn⟩:∃ n,M.fly.length=n:=⟨_,rfl⟩
 have hj:j<n:=by omega
 have hj':j<M.fly.length:=by omega
 obtain ⟨g,cap,hfv,hrng⟩:=HT.out.msAt j hj'
 obtain ⟨m,hm⟩:∃ m,M.fly[j]=m:=⟨_,rfl⟩
 rw [hm] at hrng
 have HMO:Hid (MOK M m):=HI.out.1.fl m (by rw [←hm];exact List.getElem_mem _)
 have HX:Hid (l7 M j stays=if G.delB M.rs M.up m.dst m.c=true then (true,0,qw (q8 M m j stays) m) else (false,0,q8 M m j stays)):=by
  show _=_
  unfold l7
  rw [if_pos (by omega),show M.fly[((j:Nat):Int).toNat]? = some m by rw [show ((j:Nat):Int).toNat=j from rfl,List.getElem?_eq_getElem hj',hm]]
  rfl
 have c83:w.cell? ⟨t,83,.none⟩=some (.slice (some ⟨g,0,.none⟩) n cap):=by have:=HT.out.cells.2.1;rw [hfv,hn] at this;exact this
 have HLM:Hid ((Instr.loadAt 116 (.pointer (some ⟨g,j*6,.none⟩))).run Tryz.prog w=.ok (.agg m.vs.toArray) w):=ab3 hrng
 obtain ⟨X,hst,A8,bX⟩:=newMs m w
 have HSM:Hid ((Instr.storeAt 116 (.pointer (some ⟨w.heap.size,0,.none⟩)) (.agg m.vs.toArray)).run Tryz.prog (w.alloc (.cells #[.int .i64 0,.int .i64 0,.int .i64 0,.int .i64 0,.string ⟨#[]⟩,.int .i64 0] 116))=.ok () X):=hst
 have HA:Hid (At X w.heap.size m.vs 116∧¬p.F w.heap.size):=⟨A8,fun f=>by have:=HT.out.foot _ f;omega⟩
 have HB:Hid (Below w.heap.size w X):=bX
 have HJ:Hid (j<M.fly.length):=hj'
 clear hi hm hfv hrng hst A8 bX hj'
 go_enter Tryz.func25,Tryz.ntmps25
 go_wp2_with fail
 refine HF.out.mono ?_
 rintro r W ⟨rfl,hW⟩
 obtain rfl:=hW.symm
 go_upto_region 4 with (first|with_reducible refine ak HLM.out rfl rfl ?_|with_reducible refine cu HSM.out rfl rfl ?_)
 obtain ⟨b8,hb8⟩:∃ b8,w.heap.size=b8:=⟨_,rfl⟩
 rw [hb8] at HA ⊢
 clear hb8 HSM HLM c83 HF
 have HD:Hid (∀ W,Calls Tryz.prog 57 #[.agg (G.grV M.rs M.up).toArray,.agg m.vs.toArray] W fun r w'=>r=.returned (.tuple #[.agg (G.grV (G.ny M.rs M.up m.dst m.k m.c) M.up).toArray,.bool (G.delB M.rs M.up m.dst m.c)])∧Below W.heap.size W w') :=
  fun W=>G.deliver_any M.rs M.up m.dst m.k m.c m.tag W HT.out.ok HMO.out.k8
 have HG:Hid (G.GOK (G.ny M.rs M.up m.dst m.k m.c) M.up):=delG_okU HT.out.ok _ _ _
 obtain ⟨rs2,hrs⟩:∃ rs2,G.ny M.rs M.up m.dst m.k m.c=rs2:=⟨_,rfl⟩
 obtain ⟨okb,hokb⟩:∃ okb,G.delB M.rs M.up m.dst m.c=okb:=⟨_,rfl⟩
 have HRS:Hid (G.ny M.rs M.up m.dst m.k m.c=rs2):=hrs
 rw [hrs,hokb] at HD
 rw [hrs] at HG
 rw [hokb] at HX
 clear hrs hokb
 refine ql (S:=fun w'=>aa w0 w' t M p∧At w' b8 m.vs 116) (by kernel_rfl) ?_
 intro V hV bV sV
 replace HB:Hid (Below w.heap.size w V):=bu HB.out bV
 have HS:Hid (aa w0 V t M p∧At V b8 m.vs 116):=⟨HT.out.later HB.out,HA.out.1.later bV HA.out.1.lt⟩
 have HO:Hid (¬p.F b8):=HA.out.2
 clear hV bV sV HA
 refine wpG 0 (.pointer (some ⟨t,0,.none⟩)) HS.out ?_
 refine wpG 1 (.pointer (some ⟨t,0,.none⟩)) HS.out ?_
 refine wpG 2 (.pointer (some ⟨t,1,.none⟩)) HS.out ?_
 (try simp [Act.put])
 refine wpT 3 (.agg (G.grV M.rs M.up).toArray) (.inl ⟨rfl,fun w' hw'=>?_⟩) HS.out ?_
 ·exact jc hw'.1.loadG rfl
 refine wpT 4 (.agg m.vs.toArray) (.inl ⟨rfl,fun w' hw'=>?_⟩) HS.out ?_
 ·exact jc (load_ms hw'.2) rfl
 (try simp [Act.put])
 refine' joinW1 (F:=fun Y c=>Below w.heap.size w Y∧(aa w0 Y t M p∧At Y b8 m.vs 116)∧G.At Y c G.z78 51∧w.heap.size≤c) (h1:=?main) (h2:=?rest)
 case main =>
  intro HJ
  refine wpB 5 9 ?_ ?_
  ·refine wpS ?_
   go_wp2_with fail
   refine (HD.out _).mono ?_
   rintro r W1 ⟨rfl,b1⟩
   replace HB:Hid (Below w.heap.size w W1):=bu HB.out b1
   replace HS:Hid (aa w0 W1 t M p∧At W1 b8 m.vs 116):=⟨HT.out.later HB.out,HS.out.2.later b1 HS.out.2.lt⟩
   clear b1
   refine ⟨HS.out,?_⟩
   (try simp [Act.put])
   refine wpG 6 (.tuple #[.agg (G.grV rs2 M.up).toArray,.bool okb]) HS.out ?_
   refine wpG 7 (.agg (G.grV rs2 M.up).toArray) HS.out ?_
   refine wpG 8 (.bool okb) HS.out ?_
   (try simp [Act.put])
   refine wpA 9 (wpS ?_)
   obtain ⟨Y,hY,a5,b5,s5⟩:=Go.Proofs.YtpkhdihoijkamaaGreatDoor.D.one W1 (.cells G.z78.toArray 51)
   go_wp2_with fail
   rw [←hY]
   clear hY
   have HA:Hid (G.At Y W1.heap.size G.z78 51):=a5
   have HL:Hid (w.heap.size≤W1.heap.size):=HB.out.size
   obtain ⟨c,hc⟩:∃ c,W1.heap.size=c:=⟨_,rfl⟩
   replace HB:Hid (Below w.heap.size w Y):=bu HB.out b5
   rw [hc] at HA HL ⊢
   replace HS:Hid (aa w0 Y t M p∧At Y b8 m.vs 116):=⟨HT.out.later HB.out,HS.out.2.later b5 HS.out.2.lt⟩
   clear a5 b5 s5 hc
   refine ⟨HS.out,?_⟩
   (try simp [Act.put])
   exact HJ.out Y c ⟨HB.out,HS.out,HA.out,HL.out⟩
  ·obtain ⟨Y,hY,a5,b5,s5⟩:=Go.Proofs.YtpkhdihoijkamaaGreatDoor.D.one V (.cells G.z78.toArray 51)
   refine wpS ?_
   go_wp2_with fail
   rw [←hY]
   clear hY
   have HA:Hid (G.At Y V.heap.size G.z78 51):=a5
   have HL:Hid (w.heap.size≤V.heap.size):=HB.out.size
   obtain ⟨c,hc⟩:∃ c,V.heap.size=c:=⟨_,rfl⟩
   replace HB:Hid (Below w.heap.size w Y):=bu HB.out b5
   rw [hc] at HA HL ⊢
   replace HS:Hid (aa w0 Y t M p∧At Y b8 m.vs 116):=⟨HT.out.later HB.out,HS.out.2.later b5 HS.out.2.lt⟩
   clear a5 b5 s5 hc
   refine ⟨HS.out,?_⟩
   (try simp [Act.put])
   refine wpA 5 (wpS ?_)
   go_wp2_with fail
   refine (HD.out _).mono ?_
   rintro r W1 ⟨rfl,b1⟩
   replace HA:Hid (G.At W1 c G.z78 51):=HA.out.later b1 HA.out.lt
   replace HB:Hid (Below w.heap.size w W1):=bu HB.out b1
   replace HS:Hid (aa w0 W1 t M p∧At W1 b8 m.vs 116):=⟨HT.out.later HB.out,HS.out.2.later b1 HS.out.2.lt⟩
   clear b1 Y
   rename World=>Y
   refine ⟨HS.out,?_⟩
   (try simp [Act.put])
   refine wpG 6 (.tuple #[.agg (G.grV rs2 M.up).toArray,.bool okb]) HS.out ?_
   refine wpG 7 (.agg (G.grV rs2 M.up).toArray) HS.out ?_
   refine wpG 8 (.bool okb) HS.out ?_
   (try simp [Act.put])
   exact HJ.out Y c ⟨HB.out,HS.out,HA.out,HL.out⟩
 case rest =>
  clear HB HS
  intro Y c ⟨hb,hs,ha,hl⟩
  have HB:Hid (Below w.heap.size w Y):=hb
  have HS:Hid (aa w0 Y t M p∧At Y b8 m.vs 116):=hs
  have HA:Hid (G.At Y c G.z78 51):=ha
  have HL:Hid (w.heap.size≤c):=hl
  clear hb hs ha hl
  refine wpA 10 ?_
  have hst:=G.uf HA.out rfl HG.out.vlen (G.tu rs2 M.up)
  have A6:=G.At.set (G.grV rs2 M.up) 0 _ _ HA.out
  rw [G.ik _ _ (by rw [HG.out.vlen];rfl)] at A6
  have hbl:b8≠c:=fun e=>by have h1:=HS.out.2;have h2:=HA.out;rw [e] at h1;have:=(show _=_ from h1).symm.trans (show _=_ from h2);simp only [Option.some.injEq,Obj.cells.injEq] at this;exact absurd this.2.1 (by decide)
  have A8:At (Y.setCells c 0 (G.grV rs2 M.up)) b8 m.vs 116:=At.set_ne hbl _ _ _ HS.out.2
  have HB2:Hid (Below w.heap.size w (Y.setCells c 0 (G.grV rs2 M.up))):=below_setCells HL.out (G.grV rs2 M.up) 0 _ HB.out
  generalize Y.setCells c 0 (G.grV rs2 M.up)=Z at *
  have HS2:Hid (aa w0 Z t M p∧At Z b8 m.vs 116):=⟨HT.out.later HB2.out,A8⟩
  refine Go.Proofs.YtpkhdihoijkamaaGreatDoor.D.ma hst rfl rfl rfl rfl ⟨HS2.out,?_⟩
  clear hst HA HB HS hbl A8
  refine wpG 11 (.bool okb) HS2.out ?_
  (try simp [Act.put])
  refine wpZ ?_
  (try simp [Act.put])
  have HLD:Hid ((Instr.loadAt 51 (.pointer (some ⟨c,0,.none⟩))).run Tryz.prog Z=.ok (.agg (G.grV rs2 M.up).toArray) Z):=G.gz A6 HG.out.vlen
  clear A6
  obtain ⟨V2,hV,tV,mV,mT⟩:=HS2.out.1.putG HG.out
  have HV:Hid ((Instr.storeAt 51 (.pointer (some ⟨t,1,.none⟩)) (.agg (G.grV rs2 M.up).toArray)).run Tryz.prog Z=.ok () V2):=hV
  have HTV:Hid (aa w0 V2 t { M with rs:=rs2 } p):=tV
  have HMV:Hid (ae p.F p.F w V2):=(ae.of HB2.out (Nat.le_refl _)).trans mV
  have HAV:Hid (At V2 b8 m.vs 116∧¬p.F b8):=⟨mV.at HS2.out.2 HO.out,HO.out⟩
  clear hV tV mV mT HS2 HB2
  cases stays
  ·obtain ⟨M2,hM2⟩:∃ M2,q8 M m j false=M2:=⟨_,rfl⟩
   have HM2:Hid (q8 M m j false=M2):=hM2
   have HDR:Hid (ww { M with rs:=rs2 } j=M2):=by show _=_;rw [←hM2];unfold q8;rw [if_neg (by simp),HRS.out]
   clear hM2
   go_wp2_with (first|with_reducible refine ak HLD.out rfl rfl ?_|with_reducible refine cu HV.out rfl rfl ?_)
   refine (drop_any HTV.out j HJ.out (by have:=HI.out.1.fn;show M.fly.length≤1000000;omega)).mono ?_
   rintro r Z2 ⟨rfl,p2,t2,k2,b2,m2⟩
   rw [HDR.out] at t2
   have HT2:Hid (aa w0 Z2 t M2 p2):=t2
   have HKB:Hid (p2.k=p.k∧p2.b=p.b):=⟨k2,b2⟩
   have HA2:Hid (At Z2 b8 m.vs 116∧¬p2.F b8):=⟨m2.at HAV.out.1 HAV.out.2,m2.not HAV.out.1.lt HAV.out.2⟩
   replace HMV:Hid (ae p.F p2.F w Z2):=HMV.out.trans m2
   have HC2:Hid (MOK M2 m∧M2.dn.length≤1000000∧(∀ tag,0≤xe M2 tag∧xe M2 tag<8)∧Maps.size M2.W<900):=by
    show _∧_∧_∧_
    rw [←HDR.out]
    exact ⟨⟨HMO.out.d0,HMO.out.d3,HMO.out.k8,HMO.out.t1,HMO.out.tn⟩,Nat.le_trans HI.out.1.dn HI.out.2,HI.out.1.wv,Nat.lt_of_le_of_lt HI.out.1.ws (by decide)⟩
   clear t2 k2 b2 m2 HTV HAV HLD HV HDR
   by_cases hk:okb=true
   ·rw [hk] at HX ⊢
    have HX2:Hid (l7 M j false=(true,0,qw M2 m)):=by show _=_;rw [HX.out,if_pos rfl,HM2.out]
    have HL9:Hid ((Instr.loadAt 116 (.pointer (some ⟨b8,0,.none⟩))).run Tryz.prog Z2=.ok (.agg m.vs.toArray) Z2):=load_ms HA2.out.1
    clear hk
    go_wp2_with (with_reducible refine ak HL9.out rfl rfl ?_)
    refine (count_any HT2.out m HC2.out.1 HC2.out.2.1 (HC2.out.2.2.1 m.tag).1 (HC2.out.2.2.1 m.tag).2 HC2.out.2.2.2).mono ?_
    rintro r Z3 ⟨rfl,p3,t3,k3,b3,m3⟩
    have HR:Hid (∃ p3,aa w0 Z3 t (qw M2 m) p3∧p3.k=p.k∧p3.b=p.b∧ae p.F p3.F w Z3):=⟨p3,t3,k3.trans HKB.out.1,b3.trans HKB.out.2,HMV.out.trans m3⟩
    clear t3 k3 b3 m3
    go_wp2
    go_ret2
    exact ⟨by rw [HX2.out];rfl,by rw [HX2.out];exact HR.out⟩
   ·have hk':okb=false:=by simpa using hk
    rw [hk'] at HX ⊢
    have HX2:Hid (l7 M j false=(false,0,M2)):=by show _=_;rw [HX.out,if_neg (by simp),HM2.out]
    clear hk hk'
    go_wp2
    go_ret2
    exact ⟨by rw [HX2.out];rfl,p2,by rw [HX2.out];exact HT2.out,HKB.out.1,HKB.out.2,HMV.out⟩
  ·obtain ⟨M2,hM2⟩:∃ M2,q8 M m j true=M2:=⟨_,rfl⟩
   have HM2:Hid (q8 M m j true=M2):=hM2
   have HDR:Hid (({ M with rs:=rs2 }:TM)=M2):=by show _=_;rw [←hM2];unfold q8;rw [if_pos rfl,HRS.out]
   clear hM2
   rw [HDR.out] at HTV
   obtain ⟨p2,hp2⟩:∃ p2,p2=p:=⟨_,rfl⟩
   obtain ⟨Z2,hZ2⟩:∃ Z2,Z2=V2:=⟨_,rfl⟩
   have HT2:Hid (aa w0 Z2 t M2 p2):=by rw [hp2,hZ2];exact HTV.out
   have HKB:Hid (p2.k=p.k∧p2.b=p.b):=by rw [hp2];exact ⟨rfl,rfl⟩
   have HA2:Hid (At Z2 b8 m.vs 116∧¬p2.F b8):=by rw [hp2,hZ2];exact HAV.out
   replace HMV:Hid (ae p.F p2.F w Z2):=by rw [hp2,hZ2];exact HMV.out
   have HC2:Hid (MOK M2 m∧M2.dn.length≤1000000∧(∀ tag,0≤xe M2 tag∧xe M2 tag<8)∧Maps.size M2.W<900):=by
    show _∧_∧_∧_
    rw [←HDR.out]
    exact ⟨⟨HMO.out.d0,HMO.out.d3,HMO.out.k8,HMO.out.t1,HMO.out.tn⟩,Nat.le_trans HI.out.1.dn HI.out.2,HI.out.1.wv,Nat.lt_of_le_of_lt HI.out.1.ws (by decide)⟩
   rw [←hZ2] at HV
   clear HTV HAV HDR hp2 hZ2 V2
   go_upto_region 8 with (first|with_reducible refine ak HLD.out rfl rfl ?_|with_reducible refine cu HV.out rfl rfl ?_)
   by_cases hk:okb=true
   ·rw [hk] at HX ⊢
    have HX2:Hid (l7 M j true=(true,0,qw M2 m)):=by show _=_;rw [HX.out,if_pos rfl,HM2.out]
    have HL9:Hid ((Instr.loadAt 116 (.pointer (some ⟨b8,0,.none⟩))).run Tryz.prog Z2=.ok (.agg m.vs.toArray) Z2):=load_ms HA2.out.1
    clear hk
    go_wp2_with (with_reducible refine ak HL9.out rfl rfl ?_)
    refine (count_any HT2.out m HC2.out.1 HC2.out.2.1 (HC2.out.2.2.1 m.tag).1 (HC2.out.2.2.1 m.tag).2 HC2.out.2.2.2).mono ?_
    rintro r Z3 ⟨rfl,p3,t3,k3,b3,m3⟩
    have HR:Hid (∃ p3,aa w0 Z3 t (qw M2 m) p3∧p3.k=p.k∧p3.b=p.b∧ae p.F p3.F w Z3):=⟨p3,t3,k3.trans HKB.out.1,b3.trans HKB.out.2,HMV.out.trans m3⟩
    clear t3 k3 b3 m3
    go_wp2
    go_ret2
    exact ⟨by rw [HX2.out];rfl,by rw [HX2.out];exact HR.out⟩
   ·have hk':okb=false:=by simpa using hk
    rw [hk'] at HX ⊢
    have HX2:Hid (l7 M j true=(false,0,M2)):=by show _=_;rw [HX.out,if_neg (by simp),HM2.out]
    clear hk hk'
    go_wp2
    go_ret2
    exact ⟨by rw [HX2.out];rfl,p2,by rw [HX2.out];exact HT2.out,HKB.out.1,HKB.out.2,HMV.out⟩
end Go.Proofs.YtpkhdihoijkamaaGreatDoor.U
namespace Go.Proofs.YtpkhdihoijkamaaGreatDoor.U
open Go.ChangeShapes Go.WideShapes Go.ChangeAt Go.RowKit Go.Deep Go.Maps
open Go.Proofs.YtpkhdihoijkamaaGreatDoor.D
def CmD.vs (c:CmD):List Value:=[.int .i64 c.op,.int .i64 c.who,.int .i64 c.key,.int .i64 c.new,.int .i64 c.ty,.int .i64 c.at',.bool c.st,.string c.da,.string c.wa]
theorem ut {f:Int} (h:¬f=0):ai f=.iface 96 (.int .i64 f):=by simp [ai,h]
theorem undCm:∃ d,Tryz.prog.underlying 24=some d∧d.isRow=true:=⟨_,Tryz.underlying24,rfl⟩
theorem szCm:(Tryz.prog.info? 24).map (·.size)=some 9:=by kernel_rfl
theorem load_cmO {X:World} {b o:Nat} {c:CmD} (h:X.rangeAt b o c.vs):(Instr.loadAt 24 (.pointer (some ⟨b,o,.none⟩))).run Tryz.prog X=.ok (.agg c.vs.toArray) X:=by
 obtain ⟨d,hd,hr⟩:=undCm
 exact run_loadAt_mid X b o _ c.vs d h hd hr szCm
theorem vv {X:World} {b:Nat} {T:TypeId} {c:CmD} (h:At X b c.vs T):(Instr.loadAt 24 (.pointer (some ⟨b,0,.none⟩))).run Tryz.prog X=.ok (.agg c.vs.toArray) X:=load_cmO h.whole
theorem allow_any {w0 w:World} {t:Nat} {M:TM} {p:TP} (h:aa w0 w t M p) (c:CmD) :
 Calls Tryz.prog 102 #[.pointer (some ⟨t,0,.none⟩),.agg c.vs.toArray] w fun r w'=>r=.returned (ai (ji M c))∧aa w0 w' t (ic M c) p∧ae p.F p.F w w':=by
 obtain ⟨X,hX,a0,bX,sX⟩:=Go.Proofs.YtpkhdihoijkamaaGreatDoor.D.one w (.cells c.vs.toArray 24)
 have A3:At X w.heap.size c.vs 24:=a0
 have HT:Hid (aa w0 w t M p):=h
 have HB:Hid (Below w.heap.size w X):=bX
 clear a0 bX sX h
 go_enter Tryz.func102,Tryz.ntmps102
 go_upto_region 1 with fail
 rw [←hX]
 clear hX
 obtain ⟨b3,hb3⟩:∃ b3,w.heap.size=b3:=⟨_,rfl⟩
 rw [hb3] at A3 ⊢
 clear hb3
 refine ql (S:=fun w'=>aa w0 w' t M p∧At w' b3 c.vs 24) (by kernel_rfl) ?_
 intro V hV bV sV
 replace HB:Hid (Below w.heap.size w V):=bu HB.out bV
 have HS:Hid (aa w0 V t M p∧At V b3 c.vs 24):=⟨HT.out.later HB.out,A3.later bV A3.lt⟩
 clear hV bV sV A3 X
 refine wpG 0 (.pointer (some ⟨t,0,.none⟩)) HS.out ?_
 refine wpG 2 (.pointer (some ⟨b3,1,.none⟩)) HS.out ?_
 refine wpT 3 (.int .i64 c.who) (.inl ⟨rfl,fun w' hw'=>?_⟩) HS.out ?_
 ·have hc:w'.cell? ⟨b3,1,.none⟩=some (.int .i64 c.who):=hw'.2.cell 1;go_simp
 (try simp [Act.put])
 refine wpG 4 (.pointer (some ⟨b3,0,.none⟩)) HS.out ?_
 refine wpT 5 (.int .i64 c.op) (.inl ⟨rfl,fun w' hw'=>?_⟩) HS.out ?_
 ·have hc:w'.cell? ⟨b3,0,.none⟩=some (.int .i64 c.op):=hw'.2.cell 0;go_simp
 refine wpT 6 (.bool (c.op != 7)) (.inl ⟨rfl,fun w' hw'=>?_⟩) HS.out ?_
 ·(go_simp;try rfl)
 (try simp [Act.put])
 refine wpA 1 (wpS ?_)
 go_wp2_with fail
 refine HS.out.1.st.mono ?_
 rintro r Y ⟨a2,c2,rfl,r2,_,b2⟩
 replace HB:Hid (Below w.heap.size w Y):=bu HB.out b2
 replace HS:Hid (aa w0 Y t M p∧At Y b3 c.vs 24):=⟨HT.out.later HB.out,HS.out.2.later b2 HS.out.2.lt⟩
 have HMY:Hid (Calls Tryz.prog 21 #[.agg (M.s.vs a2 c2).toArray,.int .i64 c.who,.bool (c.op != 7)] Y fun r w'=>r=.returned (.bool (mayC M c))∧Below Y.heap.size Y w') :=
  Go.Proofs.YtpkhdihoijkamaaGreatDoor.zz M.s.g M.s.t M.s.hd a2 M.s.l.length c2 M.s.y M.s.l c.who (c.op != 7) Y r2.row
 clear b2 r2
 refine ⟨HS.out,?_⟩
 (try simp [Act.put])
 refine wpA 7 (wpS ?_)
 go_wp2_with fail
 refine HMY.out.mono ?_
 rintro r Z ⟨rfl,b2⟩
 replace HB:Hid (Below w.heap.size w Z):=bu HB.out b2
 have HS2:Hid (aa w0 Z t M p∧At Z b3 c.vs 24):=⟨HT.out.later HB.out,HS.out.2.later b2 HS.out.2.lt⟩
 clear b2 HMY HS
 refine ⟨HS2.out,?_⟩
 (try simp [Act.put])
 by_cases hm:mayC M c=true
 ·have HF:Hid (ji M c=uw M):=by show _=_;unfold ji;rw [if_pos hm]
  have HA:Hid (ic M c=dx M):=by show _=_;unfold ic;rw [if_pos hm]
  rw [hm]
  clear hm
  refine wpG 8 (.bool false) HS2.out ?_
  (try simp [Act.put])
  refine wpZ ?_
  (try simp [Act.put])
  go_wp2_with fail
  refine (ready_any HS2.out.1).mono ?_
  rintro r Z2 ⟨rfl,t2,m2⟩
  have HR:Hid (aa w0 Z2 t (dx M) p∧ae p.F p.F w Z2):=⟨t2,(ae.of HB.out (Nat.le_refl _)).trans m2⟩
  clear t2 m2
  go_wp2
  go_ret
  exact ⟨by rw [HF.out];rfl,by rw [HA.out];exact HR.out.1,HR.out.2⟩
 ·have HF:Hid (ji M c=4):=by show _=_;unfold ji;rw [if_neg hm]
  have HA:Hid (ic M c=M):=by show _=_;unfold ic;rw [if_neg hm]
  have hm':mayC M c=false:=by simpa using hm
  rw [hm']
  clear hm hm'
  refine wpG 8 (.bool true) HS2.out ?_
  (try simp [Act.put])
  refine wpZ ?_
  (try simp [Act.put])
  have HR:Hid (aa w0 Z t M p∧ae p.F p.F w Z):=⟨HS2.out.1,ae.of HB.out (Nat.le_refl _)⟩
  go_wp2
  go_ret
  exact ⟨by rw [HF.out];rfl,by rw [HA.out];exact HR.out.1,HR.out.2⟩
end Go.Proofs.YtpkhdihoijkamaaGreatDoor.U
namespace Go.Proofs.YtpkhdihoijkamaaGreatDoor.D
section
variable {P:Program} {ops:Array Oper} {Q:Exit→Act→World→Prop} {md:Region.Mode} {S:World→Prop}
def wpL (P:Program) (md:Region.Mode) (ops:Array Oper) (Q:Exit→Act→World→Prop) (S:World→Prop) (z:Nat):Nat→Array Bool→Act→World→Prop
 | 0,done,a,w=>Region.ready md ops done=[]∧Q .normal a w
 | k+1,done,a,w=>(Region.ready md ops done=[]→Q .normal a w) ∧
   ∀ j ∈ Region.ready md ops done,wpOp P ops Q j (fun a1 w1=>(j≠z→S w1)∧wpL P md ops Q S z k (done.setIfInBounds j true) a1 w1) a w
theorem wpL_any (z:Nat):∀ (k:Nat) (done:Array Bool) (a:Act) (w:World),wpL P md ops Q S z k done a w→wpAny P md ops Q k done a w
 | 0,_,_,_,h=>h
 | k+1,_,_,_,h=>⟨h.1,fun j hj=>wpOp_mono (fun a1 w1 q=>wpL_any z k _ a1 w1 q.2) (h.2 j hj)⟩
def chainB (md:Region.Mode) (ops:Array Oper) (i:Nat):List Nat→Bool
 | []=>true
 | x :: p=>(match ops[x]? with
   | some o=>o.after.any fun e=>Region.binds md e && e.on == p.headD i
   | none=>false) && chainB md ops i p
theorem unlisted {done:Array Bool} {y:Nat} (h:done.getD y true=false):¬done.getD y false=true:=by
 rcases Nat.lt_or_ge y done.size with h'|h'
 ·simp [h'] at h ⊢;exact h
 ·simp [Array.getElem?_eq_none h'] at h
theorem ack {i:Nat} {done:Array Bool} (hi:done.getD i true=false):∀ p:List Nat,chainB md ops i p=true→(∀ k ∈ p,done.getD k true=false)→∀ j ∈ Region.ready md ops done,j ∉ p
 | [],_,_,_,_=>by simp
 | x :: p,h,hu,j,hj=>by
   unfold chainB at h
   rw [Bool.and_eq_true] at h
   have hrest:=ack hi p h.2 (fun k hk=>hu k (List.mem_cons_of_mem _ hk)) j hj
   intro hm
   rcases List.mem_cons.1 hm with rfl|hm
   ·obtain ⟨_,o,ho,hall⟩:=mem_ready.1 hj
    have h1:=h.1
    rw [ho] at h1
    obtain ⟨e,he,hb⟩:=Array.any_eq_true'.1 h1
    simp only [Bool.and_eq_true,beq_iff_eq] at hb
    have h2:=hall e he hb.1
    rw [hb.2] at h2
    refine unlisted ?_ h2
    cases p with
    | nil=>exact hi
    | cons y p=>exact hu y (by simp)
   ·exact hrest hm
theorem wpL_first {z i:Nat} {oi:Oper} {v:Value} (hi:ops[i]? = some oi) (hsel:∀ (j:Nat) (o:Oper) cs b,ops[j]? = some o→o.op≠.select cs b) (hQ:∀ c a w,Q (.panic c) (a.put oi.dst v) w→Q (.panic c) a w)
 (p:List Nat) (hp:chainB md ops i p=true) (hz:z ∈ p) :
 ∀ (k:Nat) (done:Array Bool) (a:Act) (w:World),(∀ j oj,ops[j]? = some oj→j≠i→done.getD j true=false→(∀ e ∈ oj.after,Region.binds md e=true→e.on≠i)→oi.apart ops oj=true) →
   i ∈ Region.ready md ops done→(∀ q ∈ p,done.getD q true=false)→YieldsIf P ops S oi v a→S w →
   wpL P md ops Q S z k (done.setIfInBounds i true) (a.put oi.dst v) w→wpL P md ops Q S z (k+1) done a w:=by
 intro k
 induction k with
 | zero =>
   intro done a w _ hr _ hy hS H
   refine ⟨fun h0=>absurd hr (by rw [h0];simp),fun j hj=>?_⟩
   by_cases e:j=i
   ·rw [e];exact hy.wpOp hi hS ⟨fun _=>hS,H⟩
   ·exact absurd (ready_mono hj e) (by rw [H.1];simp)
 | succ k ih =>
   intro done a w hfree hr hu hy hS H
   refine ⟨fun h0=>absurd hr (by rw [h0];simp),fun j hj=>?_⟩
   by_cases e:j=i
   ·rw [e];exact hy.wpOp hi hS ⟨fun _=>hS,H⟩
   ·have hun:=(mem_ready.1 hr).1
    have hjp:j ∉ p:=ack hun p hp hu j hj
    have hjz:j≠z:=fun e=>hjp (e▸hz)
    obtain ⟨hjun,oj,hoj,hall⟩:=mem_ready.1 hj
    have hno:∀ x ∈ oj.after,Region.binds md x=true→x.on≠i:=fun x hx hb heq=>by
     have h1:=hall x hx hb
     rw [heq] at h1
     exact unlisted hun h1
    have h2:=wpOp_putIf hoj (hfree j oj hoj e hjun hno) (fun cs b=>hsel i oi cs b hi) (fun cs b=>hsel j oj cs b hoj) hQ hy (H.2 j (ready_mono hj e))
    refine wpOp_mono (fun a1 w1 h3=>⟨fun _=>h3.2.1 hjz,ih (done.setIfInBounds j true) a1 w1 ?_ (ready_mono hr (Ne.symm e)) ?_ h3.1 (h3.2.1 hjz) ?_⟩) h2
    ·intro q oq hq hqi hqu hqn
     refine hfree q oq hq hqi ?_ hqn
     by_cases hjq:j=q
     ·rw [←hjq];exact hjun
     ·rw [getD_set_ne true hjq] at hqu;exact hqu
    ·intro q hq
     rw [getD_set_ne true (fun (e2:j=q)=>hjp (by rw [e2];exact hq))]
     exact hu q hq
    ·rw [Array.setIfInBounds_comm _ _ e]
     exact h3.2.2
theorem nu {z i:Nat} {oi:Oper} {v:Value} {k:Nat} {done:Array Bool} {a:Act} {w:World} (p:List Nat) (hp:(chainB md ops i p && p.contains z && p.all fun q=>done.getD q true == false)=true) (hi:ops[i]? = some oi)
 (hs:Region.noSelect ops=true) (hf:Region.free md ops done i=true) (hr:(Region.ready md ops done).contains i=true) (hQ:∀ c a w,Q (.panic c) (a.put oi.dst v) w→Q (.panic c) a w) (hy:YieldsIf P ops S oi v a) (hS:S w)
 (h:wpL P md ops Q S z k (done.setIfInBounds i true) (a.put oi.dst v) w):wpL P md ops Q S z (k+1) done a w:=by
 simp only [Bool.and_eq_true,List.all_eq_true,beq_iff_eq] at hp
 exact wpL_first hi (Region.noSelect_spec hs) hQ p hp.1.1 (by simpa using hp.1.2) k done a w (Region.free_spec hi hf) (by simpa using hr) hp.2 hy hS h
theorem wpL_all {z:Nat} {rs:List Nat} {k:Nat} {done:Array Bool} {a:Act} {w:World} (hr:Region.ready md ops done=rs) (hne:rs≠[])
 (h:∀ i ∈ rs,wpOp P ops Q i (fun a1 w1=>(i≠z→S w1)∧wpL P md ops Q S z k (done.setIfInBounds i true) a1 w1) a w):wpL P md ops Q S z (k+1) done a w :=
 ⟨fun h0=>absurd (hr▸h0) hne,hr▸h⟩
theorem aa7 {z i:Nat} {k:Nat} {done:Array Bool} {a:Act} {w:World} (hr:Region.ready md ops done=[i])
 (h:wpOp P ops Q i (fun a1 w1=>(i≠z→S w1)∧wpL P md ops Q S z k (done.setIfInBounds i true) a1 w1) a w):wpL P md ops Q S z (k+1) done a w :=
 wpL_all hr (by simp) (fun j hj=>by
  have e:j=i:=by simpa using hj
  subst e;exact h)
theorem wpL_done {z:Nat} {done:Array Bool} {a:Act} {w:World} (hr:Region.ready md ops done=[]) (h:Q .normal a w):∀ k,wpL P md ops Q S z k done a w
 | 0=>⟨hr,h⟩
 | _+1=>⟨fun _=>h,by rw [hr];simp⟩
theorem wp_region_last {id:Nat} {a:Act} {w:World} (z:Nat) (hm:P.follows .mixedOrders=true)
 (h:wpL P .any ops Q S z ops.size (Array.replicate ops.size false) a { w with drawn:=w.drawn+1 }):(Code.region id ops true).wp P Q a w :=
 wp_region_any hm (wpL_any z _ _ _ _ h)
end
end Go.Proofs.YtpkhdihoijkamaaGreatDoor.D
