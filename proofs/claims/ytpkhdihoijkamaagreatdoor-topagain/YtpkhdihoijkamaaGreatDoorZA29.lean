/- Several texts of this seat in one: USend. No statement of the seat is proved here. -/
import Derived.Test.YtpkhdihoijkamaaGreatDoorWT
import Derived.Test.YtpkhdihoijkamaaGreatDoorZA28
import Derived.Test.YtpkhdihoijkamaaGreatDoorZA01
import Derived.Test.YtpkhdihoijkamaaGreatDoorZA27
import Derived.Great.BuildSlice
namespace Go.Proofs.YtpkhdihoijkamaaGreatDoor.U
open Go.ChangeShapes Go.WideShapes Go.ChangeAt Go.RowKit Go.Deep Go.Maps
open Go.Proofs.YtpkhdihoijkamaaGreatDoor.D
theorem eltB:EltI 105 4 1 1:=by
 have h:(Tryz.prog.info? 4).map (fun i=>(i.zero,i.size,i.bytes))=some (some (.bool false),1,1):=by kernel_rfl
 refine ⟨?_,Tryz.underlying105,by decide,by decide⟩
 cases hi:Tryz.prog.info? 4 with
 | none=>rw [hi] at h;cases h
 | some i =>
   rw [hi] at h
   simp only [Option.map_some,Option.some.injEq,Prod.mk.injEq] at h
   exact ⟨i,_,rfl,h.1,h.2.1,h.2.2,rfl⟩
theorem zero_ms:∃ i,Tryz.prog.info? 116=some i∧i.zero=some (.agg z6.toArray)∧i.size=6∧i.bytes=56:=by
 have h:(Tryz.prog.info? 116).map (fun i=>(i.zero,i.size,i.bytes))=some (some (.agg z6.toArray),6,56):=by kernel_rfl
 cases hi:Tryz.prog.info? 116 with
 | none=>rw [hi] at h;cases h
 | some i=>rw [hi] at h;simp at h;exact ⟨i,rfl,h.1,h.2.1,h.2.2⟩
theorem eltM:EltI 53 116 6 56:=⟨by obtain ⟨i,h1,h2,h3,h4⟩:=zero_ms;exact ⟨i,_,h1,h2,h3,h4,rfl⟩,Tryz.underlying53,by decide,by decide⟩
theorem fill_ms (m:ed):Instr.fill (fun i=>some (i*6,6)) ((Array.range (1*6)).map ((Value.agg z6.toArray).cells[· % (Value.agg z6.toArray).cells.size]!)) [(0,.agg m.vs.toArray)]=some m.vs.toArray:=by
 have:=Great.fill_whole (s:=6) (by decide) [Value.agg m.vs.toArray] ((Array.range (1*6)).map ((Value.agg z6.toArray).cells[· % (Value.agg z6.toArray).cells.size]!)) (fun v hv=>by simp at hv;subst hv;exact (show m.vs.toArray.size=6 by rw [List.size_toArray];exact m.len)) (by simp)
 simpa [Value.cells] using this
theorem wp_build1M {o:Oper} {a:Act} {w:World} {K:Act→World→Prop} {Q:Exit→Act→World→Prop} (x:Operand) (ho:o.op=.buildSlice 53 1 #[(0,x)]) (m:ed) (hx:a.eval x=.agg m.vs.toArray)
 (h:K (a.put o.dst (.slice (some ⟨w.heap.size,0,.none⟩) 1 1)) (w.alloc (.cells m.vs.toArray 116))):o.wp Tryz.prog a w K Q:=by
 obtain ⟨i,hi,hz,hs,hb⟩:=zero_ms
 refine wp_buildSlice _ _ 1 _ ho m.vs.toArray i _ Tryz.underlying53 hi hz (by rw [hs];decide) (by rw [hs];decide) ?_ h
 rw [hs]
 have e:(#[(0,x)].map fun (p:Nat × Operand)=>(p.1,a.eval p.2)).toList=[(0,Value.agg m.vs.toArray)]:=by simp [hx]
 rw [e]
 exact fill_ms m
theorem build_ms (m:ed) (w:World):(Instr.build 116 #[(0,.int .i64 m.dst),(1,.int .i64 m.k),(2,.agg #[.int .i64 m.c.e,.int .i64 m.c.n,.string m.c.d]),(3,.int .i64 m.tag)]).run Tryz.prog w=.ok (.agg m.vs.toArray) w:=by kernel_rfl
theorem build_ce (e n:Int) (d:ByteArray) (w:World):(Instr.build 44 #[(0,.int .i64 e),(1,.int .i64 n),(2,.string d)]).run Tryz.prog w=.ok (.agg #[.int .i64 e,.int .i64 n,.string d]) w:=by kernel_rfl
theorem adk {P:Program} {S:World→Prop} {Q:Exit→Act→World→Prop} {id:Nat} {ops:Array Oper} {a:Act} {w:World} (z:Nat) (hm:P.follows .mixedOrders=true)
 (h:∀ V,w.drew=V→Below w.heap.size w V→V.heap.size=w.heap.size→wpL P .any ops Q S z ops.size (Array.replicate ops.size false) a V):(Code.region id ops true).wp P Q a w :=
 wp_region_last (S:=S) z hm (h w.drew rfl (Below.refl _ _).drew rfl)
def ceV (e n:Int) (d:ByteArray):List Value:=[.int .i64 e,.int .i64 n,.string d]
theorem undCe:∃ d,Tryz.prog.underlying 44=some d∧d.isRow=true:=⟨_,Tryz.underlying44,rfl⟩
theorem szCe':(Tryz.prog.info? 44).map (·.size)=some 3:=by kernel_rfl
theorem load_ceV {X:World} {b:Nat} {T:TypeId} {e n:Int} {d:ByteArray} (h:At X b (ceV e n d) T):(Instr.loadAt 44 (.pointer (some ⟨b,0,.none⟩))).run Tryz.prog X=.ok (.agg #[.int .i64 e,.int .i64 n,.string d]) X:=by
 obtain ⟨q,hd,hr⟩:=undCe
 exact run_loadAt_mid X b 0 _ (ceV e n d) q h.whole hd hr szCe'
theorem store_ceV {X:World} {b:Nat} {T:TypeId} {cs:List Value} (h:At X b cs T) (hc:cs.length=3) (e n:Int) (d:ByteArray) :
 (Instr.storeAt 44 (.pointer (some ⟨b,0,.none⟩)) (.agg #[.int .i64 e,.int .i64 n,.string d])).run Tryz.prog X=.ok () (X.setCells b 0 (ceV e n d)) :=
 run_storeAt_mid X b 0 _ (ceV e n d).toArray (h.there 0 3 (by omega)) szCe' (all_oneCell_toArray (by
  intro v hv
  simp only [ceV,List.mem_cons,List.not_mem_nil,or_false] at hv
  rcases hv with rfl|rfl|rfl <;> rfl))
def z3':List Value:=[.int .i64 0,.int .i64 0,.string ⟨#[]⟩]
theorem exec_build {P:Program} {dst:Option Tmp} {T ty:TypeId} {ps:Array (Nat × Operand)} {pos:String} {after:Array Edge} {gd:Option (Nat × Bool)} {a:Act} {w:World} {qs:Array (Nat × Value)} {v:Value}
 (law:(Instr.build T qs).run P w=.ok v w) (hx:(ps.map fun p=>(p.1,a.eval p.2))=qs):(execOp a.eval ⟨dst,.build T ps,ty,pos,after,gd⟩).run P w=.ok (.value v) w:=by
 unfold execOp;simp only [hx,Sem.run_bind,law,Result.andThen_ok,Sem.run_pure]
theorem wl_putM {ops:Array Oper} {rest:List Oper} {o:Oper} {a:Act} {w w':World} {Q:Exit→Act→World→Prop} (hg:o.guard=.none) (m x v:Operand) (t:TypeId) (hop:o.op=Op.mapUpdate t m x v) {p k u:Value} (hm:a.eval m=p) (hx:a.eval x=k) (hv:a.eval v=u)
 (law:(Instr.mapUpdate t p k u).run Tryz.prog w=.ok () w') (h:wpList Tryz.prog ops Q rest (a.put o.dst undef) w'):wpList Tryz.prog ops Q (o :: rest) a w :=
 wpList_plain hg fun _ hK=>wp_putM m x v t hop hm hx hv law (hK _ _ h)
def sent (k:Nat) (e n:Int) (d:ByteArray) (tag:Int) (q:Nat):List ed:=(List.range q).map fun (i:Nat)=>⟨(i:Int),k,⟨e,n,d⟩,tag⟩
theorem sent_next (k:Nat) (e n:Int) (d:ByteArray) (tag:Int) (q:Nat):sent k e n d tag (q+1)=sent k e n d tag q ++ [⟨(q:Int),k,⟨e,n,d⟩,tag⟩]:=by simp [sent,List.range_succ]
theorem sent_len (k:Nat) (e n:Int) (d:ByteArray) (tag:Int) (q:Nat):(sent k e n d tag q).length=q:=by simp [sent]
theorem msgs_app (l r:List ed):gu (l ++ r)=gu l ++ gu r:=by simp [gu]
set_option maxRecDepth 100000 in
set_option maxHeartbeats 16000000 in
theorem send_any {w0 wa:World} {t:Nat} {Ma:TM} {pa:TP} (h:aa w0 wa t Ma pa) {N:Nat} (hI:TI Ma N) (hN:N<1000000) (c:CmD) (k:Nat) (hk:c.at'=k) :
 Calls Tryz.prog 104 #[.pointer (some ⟨t,0,.none⟩),.agg c.vs.toArray] wa fun r w'=>r=.returned (.tuple #[.int .i64 (qp Ma c).1,ai (qp Ma c).2.1])∧∃ p',aa w0 w' t (qp Ma c).2.2 p'∧p'.k=pa.k∧p'.b=pa.b∧ae pa.F p'.F wa w':=by
 obtain ⟨X,hX,a0,bX,sX⟩:=Go.Proofs.YtpkhdihoijkamaaGreatDoor.D.one wa (.cells c.vs.toArray 24)
 have A3:At X wa.heap.size c.vs 24:=a0
 have HT:Hid (aa w0 X t Ma pa):=h.later bX
 have HM:Hid (ae pa.F pa.F wa X):=ae.of bX (Nat.le_refl _)
 have hoff:¬pa.F wa.heap.size:=fun f=>by have:=h.foot _ f;omega
 have HI:Hid (TI Ma N∧N<1000000∧c.at'=k):=⟨hI,hN,hk⟩
 clear a0 bX sX h hI hN hk
 go_enter Tryz.func104,Tryz.ntmps104
 go_upto_region 1 with fail
 rw [←hX]
 clear hX
 obtain ⟨b3,hb3⟩:∃ b3,wa.heap.size=b3:=⟨_,rfl⟩
 rw [hb3] at A3 hoff ⊢
 clear hb3
 have HA:Hid (At X b3 c.vs 24∧¬pa.F b3):=⟨A3,hoff⟩
 clear A3 hoff
 obtain ⟨sz,hsz⟩:∃ sz,Maps.size Ma.W=sz:=⟨_,rfl⟩
 obtain ⟨n,hn⟩:∃ n,Ma.fly.length=n:=⟨_,rfl⟩
 have hlen:∀ ty,(Builtin.len_ #[104] ty #[.map (some pa.m)]).run Tryz.prog X=.ok (.int .i64 (sz:Int)) X:=fun ty=>by rw [←hsz];exact HT.out.mp.len Tryz.underlying104 ty
 have c84:=HT.out.cells.2.2.1
 obtain ⟨fa,fc,hfv⟩:=HT.out.fvIs
 have c83:X.cell? ⟨t,83,.none⟩=some (.slice fa n fc):=by have:=HT.out.cells.2.1;rwa [hfv,hn] at this
 have hn40:n≤40:=by have:=HI.out.1.fn;omega
 have HFB:Hid (fullB Ma=(decide (6≤sz) || decide (40<n+3))):=by show _=_;unfold fullB;rw [hsz,hn]
 clear hsz hn hfv
 by_cases h6:6≤sz
 ·have h6I:(6:Int)≤(sz:Int):=by omega
  have HX:Hid (qp Ma c=(0,6,Ma)):=by show _=_;unfold qp;rw [HFB.out,if_pos (by simp [h6])]
  clear h6
  go_wp2
  go_ret2
  exact ⟨by rw [HX.out];rfl,pa,by rw [HX.out];exact HT.out,rfl,rfl,HM.out⟩
 have h6I:¬(6:Int)≤(sz:Int):=by omega
 by_cases h40:40<n+3
 ·have h40I:(40:Int)<(n:Int)+3:=by omega
  have HX:Hid (qp Ma c=(0,6,Ma)):=by show _=_;unfold qp;rw [HFB.out,if_pos (by simp [h40])]
  clear h6 h40
  go_wp2
  go_ret2
  exact ⟨by rw [HX.out];rfl,pa,by rw [HX.out];exact HT.out,rfl,rfl,HM.out⟩
 have h40I:¬(40:Int)<(n:Int)+3:=by omega
 have HX:Hid (qp Ma c=((Ma.dn.length:Int)+1,0,rq Ma c)):=by show _=_;unfold qp;rw [HFB.out,if_neg (by simp [h6,h40])]
 clear h6 h40
 go_upto_region 3 with fail
 clear h6I h40I hlen c84 c83 hn40 HFB
 have hw:IntKind.wrap .i64 (Ma.nm+1)=Ma.nm+1:=by
  have h1:=HI.out.1.n0
  have h2:=HI.out.1.nn
  have h3:=HI.out.1.dn
  have h4:=HI.out.2.1
  rw [IntKind.wrap_i64];omega
 have c86:=HT.out.cells.2.2.2.2
 have f86:=HT.out.froz 86 (by decide)
 have hn1:=HT.out.putN (Ma.nm+1)
 have HT1:Hid (aa w0 (X.setCell ⟨t,86,.none⟩ (.int .i64 (Ma.nm+1))) t { Ma with nm:=Ma.nm+1 } pa):=hn1.1
 have HM1:Hid (ae pa.F pa.F wa (X.setCell ⟨t,86,.none⟩ (.int .i64 (Ma.nm+1)))):=HM.out.trans hn1.2
 have HA1:Hid (At (X.setCell ⟨t,86,.none⟩ (.int .i64 (Ma.nm+1))) b3 c.vs 24):=hn1.2.at HA.out.1 HA.out.2
 clear hn1
 have c85:=HT1.out.cells.2.2.2.1
 obtain ⟨X1,hX1⟩:∃ X1,X1=X.setCell ⟨t,86,.none⟩ (.int .i64 (Ma.nm+1)):=⟨_,rfl⟩
 go_upto_region 4 with fail
 rw [←hX1] at HT1 HM1 HA1 c85 ⊢
 clear hX1 c86 f86 hw HT HM
 obtain ⟨X2,hX2,a2,b2,s2⟩:=Go.Proofs.YtpkhdihoijkamaaGreatDoor.D.one X1 (.cells #[.bool false] 4)
 have A2:At X2 X1.heap.size [.bool false] 4:=a2
 have hoff2:¬pa.F X1.heap.size:=fun f=>by have:=HT1.out.foot _ f;omega
 replace HT1:Hid (aa w0 X2 t { Ma with nm:=Ma.nm+1 } pa):=HT1.out.later b2
 replace HM1:Hid (ae pa.F pa.F wa X2):=HM1.out.trans (ae.of b2 (Nat.le_refl _))
 replace HA1:Hid (At X2 b3 c.vs 24):=HA1.out.later b2 HA1.out.lt
 have HOB:Hid (ek 4 1 (X1.alloc (.cells #[.bool false] 4)) pa.dv Ma.dn.length (Ma.dn.map Value.bool)):=by rw [←hX2];exact HT1.out.dl
 have HCB:Hid (∀ j y,[Value.bool false][j]? = some y→(X1.alloc (.cells #[.bool false] 4)).cell? ⟨X1.heap.size,0+j,.none⟩=some y):=by
  intro j y hj
  rw [←hX2,A2.cell,Nat.zero_add]
  exact hj
 have HDL:Hid (Ma.dn.length+1≤1000000):=by have:=HI.out.1.dn;have:=HI.out.2.1;show _≤_;omega
 clear a2 A2 hoff2 s2
 go_wp2_with (refine wpList_appX eltB rfl _ _ rfl HOB.out _ 0 1 1 [.bool false] rfl rfl rfl HCB.out (by simp [Value.oneCell']) HDL.out ?_)
 intro v2 X3 ho3 hm3
 rw [←hX2] at hm3
 obtain ⟨ga,gc,rfl⟩:=ho3.form
 obtain ⟨p,t2,k2,b2',m2⟩:=HT1.out.putD hm3 (dn:=Ma.dn ++ [false]) (by rw [List.length_append,List.map_append];exact ho3)
 obtain ⟨d85,f85⟩:=HT1.out.at85 hm3
 have HKB:Hid (p.k=pa.k∧p.b=pa.b):=⟨k2,b2'⟩
 have HA2:Hid (At (X3.setCell ⟨t,85,.none⟩ (.slice ga (Ma.dn.length+1) gc)) b3 c.vs 24∧¬p.F b3):=⟨m2.at HA1.out HA.out.2,m2.not HA1.out.lt HA.out.2⟩
 have HMa:Hid (ae pa.F p.F wa (X3.setCell ⟨t,85,.none⟩ (.slice ga (Ma.dn.length+1) gc))):=HM1.out.trans m2
 obtain ⟨M,hM⟩:∃ M,({ Ma with nm:=Ma.nm+1,dn:=Ma.dn ++ [false] }:TM)=M:=⟨_,rfl⟩
 have HMM:Hid (({ Ma with nm:=Ma.nm+1,dn:=Ma.dn ++ [false] }:TM)=M):=hM
 have HT2:Hid (aa w0 (X3.setCell ⟨t,85,.none⟩ (.slice ga (Ma.dn.length+1) gc)) t M p):=by rw [←hM];exact t2
 clear t2 k2 b2' m2 hM ho3 hm3 HOB HCB HT1 HM1 HA1 HA c85 b2 hX2
 obtain ⟨w,hwX⟩:∃ w,w=X3.setCell ⟨t,85,.none⟩ (.slice ga (Ma.dn.length+1) gc):=⟨_,rfl⟩
 go_upto_region 6 with fail
 rw [←hwX] at HT2 HMa HA2 ⊢
 clear hwX d85 f85
 have HT:Hid (aa w0 w t M p):=HT2.out
 have HX3:Hid (At w b3 c.vs 24):=HA2.out.1
 have HO:Hid (¬p.F b3):=HA2.out.2
 clear HT2 HA2
 obtain ⟨tag,htag⟩:∃ tag,(Ma.dn.length:Int)+1=tag:=⟨_,rfl⟩
 have HTAG:Hid ((Ma.dn.length:Int)+1=tag):=htag
 have HFN:Hid (M.fly.length≤40):=by show _≤_;rw [←HMM.out];exact HI.out.1.fn
 have HWN:Hid (Maps.size M.W≤6∧(Lit.int .i64 tag).wf=true):=by
  refine ⟨by rw [←HMM.out];exact HI.out.1.ws,WalkArith.wf_i64 ?_⟩
  have h1:=HI.out.1.dn
  have h2:=HI.out.2.1
  omega
 have HSX:Hid (rq Ma c={ M with W:=M.W.put (.int .i64 tag) (.lit (.int .u64 0)),fly:=M.fly ++ sent k M.e M.nm c.da tag 3 }):=by
  show _=_
  rw [←HMM.out,←htag]
  unfold rq sent
  rw [show c.at'.toNat=k by rw [HI.out.2.2];rfl]
  rfl
 rw [htag] at HX ⊢
 clear htag HMM
 refine ql (S:=fun w'=>aa w0 w' t M p∧At w' b3 c.vs 24) (by kernel_rfl) ?_
 intro V hV bV sV
 have HB:Hid (Below w.heap.size w V):=bV
 have HS:Hid (aa w0 V t M p∧At V b3 c.vs 24):=⟨HT.out.later HB.out,HX3.out.later HB.out HX3.out.lt⟩
 clear hV bV sV
 refine' joinW1 (F:=fun Y c9=>Below w.heap.size w Y∧(aa w0 Y t M p∧At Y b3 c.vs 24)∧At Y c9 z3' 44∧w.heap.size≤c9) (h1:=?main) (h2:=?rest)
 case main =>
  intro HJ
  refine wpG 0 (.pointer (some ⟨t,0,.none⟩)) HS.out ?_
  refine wpG 2 (.pointer (some ⟨t,0,.none⟩)) HS.out ?_
  refine wpG 6 (.pointer (some ⟨b3,7,.none⟩)) HS.out ?_
  (try simp [Act.put])
  refine wpG 3 (.pointer (some ⟨t,0,.none⟩)) HS.out ?_
  refine wpT 7 (.string c.da) (.inl ⟨rfl,fun w' hw'=>?_⟩) HS.out ?_
  ·have hc:w'.cell? ⟨b3,7,.none⟩=some (.string c.da):=hw'.2.cell 7;go_simp
  (try simp [Act.put])
  refine wpG 4 (.pointer (some ⟨t,86,.none⟩)) HS.out ?_
  (try simp [Act.put])
  refine wpT 5 (.int .i64 M.nm) (.inl ⟨rfl,fun w' hw'=>?_⟩) HS.out ?_
  ·have hc:w'.cell? ⟨t,86,.none⟩=some (.int .i64 M.nm):=hw'.1.cells.2.2.2.2;go_simp
  (try simp [Act.put])
  refine wpB 1 9 ?_ ?_
  ·refine wpS ?_
   go_wp2_with fail
   refine (aa.ep HS.out.1).mono ?_
   rintro r Y1 ⟨rfl,hW⟩
   obtain rfl:=hW.symm
   refine ⟨HS.out,?_⟩
   (try simp [Act.put])
   refine wpT 8 (.agg #[.int .i64 M.e,.int .i64 M.nm,.string c.da]) (.inl ⟨rfl,fun w' hw'=>?_⟩) HS.out ?_
   ·exact exec_build (build_ce _ _ _ _) (by simp [Act.eval])
   (try simp [Act.put])
   refine wpA 9 ?_
   obtain ⟨Y2,hY,a5,b5,s5⟩:=Go.Proofs.YtpkhdihoijkamaaGreatDoor.D.one V (.cells #[.int .i64 0,.int .i64 0,.string ⟨#[]⟩] 44)
   refine wpS ?_
   go_wp2_with fail
   rw [←hY]
   clear hY
   have HA9:Hid (At Y2 V.heap.size z3' 44):=a5
   have HL9:Hid (w.heap.size≤V.heap.size):=HB.out.size
   obtain ⟨c9,hc⟩:∃ c9,V.heap.size=c9:=⟨_,rfl⟩
   replace HB:Hid (Below w.heap.size w Y2):=bu HB.out b5
   replace HS:Hid (aa w0 Y2 t M p∧At Y2 b3 c.vs 24):=⟨HT.out.later HB.out,(HS.out.2).later b5 (HS.out.2).lt⟩
   rw [hc] at HA9 HL9 ⊢
   clear a5 b5 s5 hc
   refine ⟨HS.out,?_⟩
   (try simp [Act.put])
   exact HJ.out Y2 c9 ⟨HB.out,HS.out,HA9.out,HL9.out⟩
  ·obtain ⟨Y3,hY,a5,b5,s5⟩:=Go.Proofs.YtpkhdihoijkamaaGreatDoor.D.one V (.cells #[.int .i64 0,.int .i64 0,.string ⟨#[]⟩] 44)
   refine wpS ?_
   go_wp2_with fail
   rw [←hY]
   clear hY
   have HA9:Hid (At Y3 V.heap.size z3' 44):=a5
   have HL9:Hid (w.heap.size≤V.heap.size):=HB.out.size
   obtain ⟨c9,hc⟩:∃ c9,V.heap.size=c9:=⟨_,rfl⟩
   replace HB:Hid (Below w.heap.size w Y3):=bu HB.out b5
   replace HS:Hid (aa w0 Y3 t M p∧At Y3 b3 c.vs 24):=⟨HT.out.later HB.out,(HS.out.2).later b5 (HS.out.2).lt⟩
   rw [hc] at HA9 HL9 ⊢
   clear a5 b5 s5 hc
   refine ⟨HS.out,?_⟩
   (try simp [Act.put])
   refine wpA 1 (wpS ?_)
   go_wp2_with fail
   refine (aa.ep HS.out.1).mono ?_
   rintro r Y4 ⟨rfl,hW⟩
   obtain rfl:=hW.symm
   refine ⟨HS.out,?_⟩
   (try simp [Act.put])
   refine wpT 8 (.agg #[.int .i64 M.e,.int .i64 M.nm,.string c.da]) (.inl ⟨rfl,fun w' hw'=>?_⟩) HS.out ?_
   ·exact exec_build (build_ce _ _ _ _) (by simp [Act.eval])
   (try simp [Act.put])
   exact HJ.out Y3 c9 ⟨HB.out,HS.out,HA9.out,HL9.out⟩
 case rest =>
  clear HB HS
  intro Y c9 ⟨hb,hs,a9,l9⟩
  have HB:Hid (Below w.heap.size w Y):=hb
  have HS:Hid (aa w0 Y t M p∧At Y b3 c.vs 24):=hs
  have HA9:Hid (At Y c9 z3' 44):=a9
  have HL9:Hid (w.heap.size≤c9):=l9
  clear hb hs a9 l9
  refine wpA 10 ?_
  have hst:=store_ceV HA9.out rfl M.e M.nm c.da
  have A9:=At.set (ceV M.e M.nm c.da) 0 _ _ HA9.out
  rw [ik (ceV M.e M.nm c.da) z3' rfl] at A9
  have HB2:Hid (Below w.heap.size w (Y.setCells c9 0 (ceV M.e M.nm c.da))):=below_setCells HL9.out _ 0 _ HB.out
  generalize Y.setCells c9 0 (ceV M.e M.nm c.da)=Z at *
  have HS2:Hid (aa w0 Z t M p∧At Z b3 c.vs 24):=⟨HT.out.later HB2.out,HX3.out.later HB2.out HX3.out.lt⟩
  refine Go.Proofs.YtpkhdihoijkamaaGreatDoor.D.ma hst rfl rfl rfl rfl ⟨HS2.out,?_⟩
  have hoff9:¬p.F c9:=fun f=>by have:=HT.out.foot _ f;have:=HL9.out;omega
  clear hst HA9 HB HS
  refine wpZ ?_
  (try simp [Act.put])
  have HMV:Hid (ae p.F p.F w Z):=ae.of HB2.out (Nat.le_refl _)
  go_wp2
  go_loopw [55] (fun i wr=>∃ q:Nat,q≤3∧i=.int .i64 q∧∃ pq,aa w0 wr t { M with fly:=M.fly ++ sent k M.e M.nm c.da tag q } pq∧pq.k=p.k∧pq.b=p.b∧ae p.F pq.F w wr∧At wr b3 c.vs 24∧At wr c9 (ceV M.e M.nm c.da) 44∧¬pq.F b3∧¬pq.F c9) (fun i _=>3 - (intOf i).toNat)
  case atStart=>exact ⟨0,by decide,rfl,p,by rw [show sent k M.e M.nm c.da tag 0=[] from rfl,List.append_nil];exact HS2.out.1,rfl,rfl,HMV.out,HS2.out.2,A9,HO.out,hoff9⟩
  case round =>
   clear HT HX3 HO HMV A9 hoff9
   obtain ⟨q,hq,rfl,pq,hT,hk,hb,hm,h3,h9,o3,o9⟩:=hrel
   by_cases hlt:q<3
   ·have hqI:(q:Int)<3:=by omega
    have HTq:Hid (aa w0 wr t { M with fly:=M.fly ++ sent k M.e M.nm c.da tag q } pq):=hT
    have HKq:Hid (pq.k=p.k∧pq.b=p.b∧ae p.F pq.F w wr):=⟨hk,hb,hm⟩
    have HLq:Hid (At wr b3 c.vs 24∧At wr c9 (ceV M.e M.nm c.da) 44∧¬pq.F b3∧¬pq.F c9):=⟨h3,h9,o3,o9⟩
    have HQ:Hid (q<3):=hlt
    clear hT hk hb hm h3 h9 o3 o9 hq hlt
    go_upto_region 10 with fail
    obtain ⟨m,hm⟩:∃ m,m=(⟨(q:Int),k,⟨M.e,M.nm,c.da⟩,tag⟩:ed):=⟨_,rfl⟩
    have HMS:Hid (m=(⟨(q:Int),k,⟨M.e,M.nm,c.da⟩,tag⟩:ed)):=hm
    have HBM:Hid (∀ W,(Instr.build 116 #[(0,.int .i64 q),(1,.int .i64 c.at'),(2,.agg #[.int .i64 M.e,.int .i64 M.nm,.string c.da]),(3,.int .i64 tag)]).run Tryz.prog W=.ok (.agg m.vs.toArray) W):=fun W=>by rw [hm,HI.out.2.2];exact build_ms (⟨(q:Int),k,⟨M.e,M.nm,c.da⟩,tag⟩:ed) W
    clear hm
    obtain ⟨fv,hfv⟩:∃ fv,pq.fv=fv:=⟨_,rfl⟩
    have HFV:Hid (pq.fv=fv):=hfv
    refine adk 15 (S:=fun w'=>w'.cell? ⟨t,83,.none⟩=some fv∧At w' b3 c.vs 24∧At w' c9 (ceV M.e M.nm c.da) 44) (by kernel_rfl) ?_
    intro V1 hV bV sV
    replace HTq:Hid (aa w0 V1 t { M with fly:=M.fly ++ sent k M.e M.nm c.da tag q } pq):=HTq.out.later bV
    replace HKq:Hid (pq.k=p.k∧pq.b=p.b∧ae p.F pq.F w V1):=⟨HKq.out.1,HKq.out.2.1,HKq.out.2.2.trans (ae.of bV (Nat.le_refl _))⟩
    replace HLq:Hid (At V1 b3 c.vs 24∧At V1 c9 (ceV M.e M.nm c.da) 44∧¬pq.F b3∧¬pq.F c9):=⟨HLq.out.1.later bV HLq.out.1.lt,HLq.out.2.1.later bV HLq.out.2.1.lt,HLq.out.2.2⟩
    have HSq:Hid (V1.cell? ⟨t,83,.none⟩=some fv∧At V1 b3 c.vs 24∧At V1 c9 (ceV M.e M.nm c.da) 44):=⟨by rw [←hfv];exact HTq.out.cells.2.1,HLq.out.1,HLq.out.2.1⟩
    clear hV bV sV hfv
    refine nu (i:=0) (v:=.pointer (some ⟨t,0,.none⟩)) [15,14,13] (by kernel_rfl) rfl (by kernel_rfl) (by kernel_rfl) (by kernel_rfl) (fun _ _ _ h=>h) (.inl ⟨rfl,fun w' hw'=>?_⟩) HSq.out ?_
    ·go_simp
    refine nu (i:=1) (v:=.pointer (some ⟨t,0,.none⟩)) [15,12,4,3,2] (by kernel_rfl) rfl (by kernel_rfl) (by kernel_rfl) (by kernel_rfl) (fun _ _ _ h=>h) (.inl ⟨rfl,fun w' hw'=>?_⟩) HSq.out ?_
    ·go_simp
    refine nu (i:=2) (v:=.pointer (some ⟨t,0,.none⟩)) [15,12,4,3] (by kernel_rfl) rfl (by kernel_rfl) (by kernel_rfl) (by kernel_rfl) (fun _ _ _ h=>h) (.inl ⟨rfl,fun w' hw'=>?_⟩) HSq.out ?_
    ·go_simp
    (try simp [Act.put])
    refine nu (i:=3) (v:=.pointer (some ⟨t,83,.none⟩)) [15,12,4] (by kernel_rfl) rfl (by kernel_rfl) (by kernel_rfl) (by kernel_rfl) (fun _ _ _ h=>h) (.inl ⟨rfl,fun w' hw'=>?_⟩) HSq.out ?_
    ·go_simp
    refine nu (i:=4) (v:=fv) [15,12] (by kernel_rfl) rfl (by kernel_rfl) (by kernel_rfl) (by kernel_rfl) (fun _ _ _ h=>h) (.inl ⟨rfl,fun w' hw'=>?_⟩) HSq.out ?_
    ·have hc:w'.cell? ⟨t,83,.none⟩=some (fv):=hw'.1;go_simp
    refine nu (i:=5) (v:=.int .i64 (q:Int)) [15,12,11,10] (by kernel_rfl) rfl (by kernel_rfl) (by kernel_rfl) (by kernel_rfl) (fun _ _ _ h=>h) (.inl ⟨rfl,fun w' hw'=>?_⟩) HSq.out ?_
    ·go_simp
    (try simp [Act.put])
    refine nu (i:=6) (v:=.pointer (some ⟨b3,5,.none⟩)) [15,12,11,10,7] (by kernel_rfl) rfl (by kernel_rfl) (by kernel_rfl) (by kernel_rfl) (fun _ _ _ h=>h) (.inl ⟨rfl,fun w' hw'=>?_⟩) HSq.out ?_
    ·go_simp
    refine nu (i:=7) (v:=.int .i64 c.at') [15,12,11,10] (by kernel_rfl) rfl (by kernel_rfl) (by kernel_rfl) (by kernel_rfl) (fun _ _ _ h=>h) (.inl ⟨rfl,fun w' hw'=>?_⟩) HSq.out ?_
    ·have hc:w'.cell? ⟨b3,5,.none⟩=some (.int .i64 c.at'):=hw'.2.1.cell 5;go_simp
    refine nu (i:=8) (v:=.agg #[.int .i64 M.e,.int .i64 M.nm,.string c.da]) [15,12,11,10] (by kernel_rfl) rfl (by kernel_rfl) (by kernel_rfl) (by kernel_rfl) (fun _ _ _ h=>h) (.inl ⟨rfl,fun w' hw'=>?_⟩) HSq.out ?_
    ·exact jc (load_ceV hw'.2.2) rfl
    (try simp [Act.put])
    refine nu (i:=9) (v:=.int .i64 tag) [15,12,11,10] (by kernel_rfl) rfl (by kernel_rfl) (by kernel_rfl) (by kernel_rfl) (fun _ _ _ h=>h) (.inl ⟨rfl,fun w' hw'=>?_⟩) HSq.out ?_
    ·go_simp
    refine nu (i:=10) (v:=.agg m.vs.toArray) [15,12,11] (by kernel_rfl) rfl (by kernel_rfl) (by kernel_rfl) (by kernel_rfl) (fun _ _ _ h=>h) (.inl ⟨rfl,fun w' hw'=>?_⟩) HSq.out ?_
    ·exact exec_build (HBM.out _) (by simp [Act.eval,Act.put])
    (try simp [Act.put])
    refine aa7 (i:=11) (by kernel_rfl) ?_
    refine wpS ?_
    refine wp_build1M (.tmp 68) rfl m rfl ?_
    obtain ⟨V2,hV2,a2,b2,s2⟩:=Go.Proofs.YtpkhdihoijkamaaGreatDoor.D.one V1 (.cells m.vs.toArray 116)
    rw [←hV2]
    clear hV2
    have A2:At V2 V1.heap.size m.vs 116:=a2
    have HTr:Hid (aa w0 V2 t { M with fly:=M.fly ++ sent k M.e M.nm c.da tag q } pq):=HTq.out.later b2
    have HSr:Hid (V2.cell? ⟨t,83,.none⟩=some fv∧At V2 b3 c.vs 24∧At V2 c9 (ceV M.e M.nm c.da) 44):=⟨by rw [←HFV.out];exact HTr.out.cells.2.1,HSq.out.2.1.later b2 HSq.out.2.1.lt,HSq.out.2.2.later b2 HSq.out.2.2.lt⟩
    have HKr:Hid (pq.k=p.k∧pq.b=p.b∧ae p.F pq.F w V2):=⟨HKq.out.1,HKq.out.2.1,HKq.out.2.2.trans (ae.of b2 (Nat.le_refl _))⟩
    obtain ⟨d,hd⟩:∃ d,V1.heap.size=d:=⟨_,rfl⟩
    rw [hd] at A2 ⊢
    clear a2 b2 s2 hd HSq HKq HTq
    refine ⟨fun _=>HSr.out,?_⟩
    (try simp [Act.put])
    refine aa7 (i:=12) (by kernel_rfl) ?_
    refine wpS ?_
    have hox:ek 116 6 V2 fv (M.fly ++ sent k M.e M.nm c.da tag q).length (gu (M.fly ++ sent k M.e M.nm c.da tag q)):=by have:=HTr.out.fl;rw [HFV.out] at this;exact this
    have hbd:(M.fly ++ sent k M.e M.nm c.da tag q).length+1≤1000000:=by rw [List.length_append,sent_len];have:=HFN.out;have:=HQ.out;omega
    refine wp_appX eltM (.tmp 62) (.tmp 69) rfl hox d 0 1 1 m.vs rfl rfl rfl (fun j y hj=>by rw [A2.cell,Nat.zero_add];exact hj) m.one hbd ?_
    intro v2 V3 ho3 hm3
    have hmq:ae (ObX pq.fv) (ObX v2) V2 V3:=by rw [HFV.out];exact hm3
    obtain ⟨p3,t3,k3,b3',m3⟩:=HTr.out.putF hmq (fly:=M.fly ++ sent k M.e M.nm c.da tag (q+1)) (by rw [sent_next,←List.append_assoc,←HMS.out,List.length_append,msgs_app,show gu [m]=m.vs by simp [gu]];exact ho3)
    have hnf:∀ b,¬pq.F b→¬ObX pq.fv b:=fun b hb f=>hb (by show pq.col b≠0;rw [HTr.out.cF b f];decide)
    have HSs:Hid (V3.cell? ⟨t,83,.none⟩=some fv∧At V3 b3 c.vs 24∧At V3 c9 (ceV M.e M.nm c.da) 44):=⟨by rw [←HFV.out];exact (HTr.out.at83 hmq).1,hmq.at HSr.out.2.1 (hnf _ HLq.out.2.2.1),hmq.at HSr.out.2.2 (hnf _ HLq.out.2.2.2)⟩
    have hst:=At.store1 (HTr.out.hdM hmq HTr.out.cF (by decide)) (T:=53) (i:=83) (v:=v2) (by kernel_rfl) (by rw [show (pq.tv _).length=87 from tgV_len HTr.out.len];decide) ho3.one.1 ho3.one.2
    have HTs:Hid (aa w0 (V3.setCell ⟨t,83,.none⟩ v2) t { M with fly:=M.fly ++ sent k M.e M.nm c.da tag (q+1) } p3):=t3
    have HKs:Hid (p3.k=p.k∧p3.b=p.b∧ae p.F p3.F w (V3.setCell ⟨t,83,.none⟩ v2)):=⟨k3.trans HKr.out.1,b3'.trans HKr.out.2.1,HKr.out.2.2.trans m3⟩
    have HLs:Hid (At (V3.setCell ⟨t,83,.none⟩ v2) b3 c.vs 24∧At (V3.setCell ⟨t,83,.none⟩ v2) c9 (ceV M.e M.nm c.da) 44∧¬p3.F b3∧¬p3.F c9):=⟨m3.at HSr.out.2.1 HLq.out.2.2.1,m3.at HSr.out.2.2 HLq.out.2.2.2,m3.not HSr.out.2.1.lt HLq.out.2.2.1,m3.not HSr.out.2.2.lt HLq.out.2.2.2⟩
    have HST:Hid ((Instr.storeAt 53 (.pointer (some ⟨t,83,.none⟩)) v2).run Tryz.prog V3=.ok () (V3.setCell ⟨t,83,.none⟩ v2)):=hst
    clear hox hbd ho3 hm3 hmq t3 k3 b3' m3 hnf hst HSr HKr HTr HLq A2
    refine ⟨fun _=>HSs.out,?_⟩
    (try simp [Act.put])
    refine nu (i:=13) (v:=.pointer (some ⟨t,0,.none⟩)) [15,14] (by kernel_rfl) rfl (by kernel_rfl) (by kernel_rfl) (by kernel_rfl) (fun _ _ _ h=>h) (.inl ⟨rfl,fun w' hw'=>?_⟩) HSs.out ?_
    ·go_simp
    refine nu (i:=14) (v:=.pointer (some ⟨t,83,.none⟩)) [15] (by kernel_rfl) rfl (by kernel_rfl) (by kernel_rfl) (by kernel_rfl) (fun _ _ _ h=>h) (.inl ⟨rfl,fun w' hw'=>?_⟩) HSs.out ?_
    ·go_simp
    (try simp [Act.put])
    refine aa7 (i:=15) (by kernel_rfl) ?_
    refine Go.Proofs.YtpkhdihoijkamaaGreatDoor.D.ma HST.out rfl rfl rfl rfl ⟨fun h=>absurd rfl h,?_⟩
    generalize V3.setCell ⟨t,83,.none⟩ v2=V4 at *
    clear HST HSs
    refine wpL_done (by kernel_rfl) ?_ _
    (try simp [Act.put])
    go_wp2
    go_roundw
    case rel=>exact ⟨q+1,HQ.out,by go_num,p3,HTs.out,HKs.out.1,HKs.out.2.1,HKs.out.2.2,HLs.out.1,HLs.out.2.1,HLs.out.2.2.1,HLs.out.2.2.2⟩
    case measure=>simp [intOf];have:=HQ.out;omega
   ·obtain rfl:q=3:=by omega
    have HTe:Hid (aa w0 wr t { M with fly:=M.fly ++ sent k M.e M.nm c.da tag 3 } pq):=hT
    obtain ⟨V5,hrun,hM5,mM⟩:=map_put HTe.out.mp HWN.out.2 (wf_u8 (by decide:(0:Int)≤0) (by decide)) (by have:=HWN.out.1;exact Nat.lt_of_le_of_lt this (by decide))
    have h5:=HTe.out.map mM hM5
    have HR:Hid (∃ p',aa w0 V5 t (rq Ma c) p'∧p'.k=pa.k∧p'.b=pa.b∧ae pa.F p'.F wa V5):=⟨pq,by rw [HSX.out];exact h5.1,hk.trans HKB.out.1,hb.trans HKB.out.2,(HMa.out.trans hm).trans h5.2⟩
    have HRUN:Hid ((Instr.mapUpdate 104 (.map (some pq.m)) (.int .i64 tag) (.int .u64 0)).run Tryz.prog wr=.ok () V5):=hrun
    have c84:=HTe.out.cells.2.2.1
    clear hT hk hb hm h3 h9 o3 o9 hq hrun hM5 mM h5 HTe
    go_wp2_with (refine wl_putM rfl _ _ _ _ rfl rfl rfl rfl HRUN.out ?_)
    go_ret2
    exact ⟨by rw [HX.out];rfl,by rw [HX.out];exact HR.out⟩
end Go.Proofs.YtpkhdihoijkamaaGreatDoor.U
