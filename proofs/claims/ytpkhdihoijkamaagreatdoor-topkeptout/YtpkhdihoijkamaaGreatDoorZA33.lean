/- Several texts of this seat in one: URead. No statement of the seat is proved here. -/
import Derived.Test.YtpkhdihoijkamaaGreatDoorWT
import Derived.Test.YtpkhdihoijkamaaGreatDoorZA28
import Derived.Test.YtpkhdihoijkamaaGreatDoorZA32
import Derived.Test.YtpkhdihoijkamaaGreatDoorZA01
namespace Go.Proofs.YtpkhdihoijkamaaGreatDoor.U
open Go.ChangeShapes Go.WideShapes Go.ChangeAt Go.RowKit Go.Deep Go.Maps
open Go.Proofs.YtpkhdihoijkamaaGreatDoor.D
attribute [local go_sem] zc78
def z3:List Value:=[.int .i64 0,.int .i64 0,.string ⟨#[]⟩]
theorem szCe:(Tryz.prog.info? 44).map (·.size)=some 3:=by kernel_rfl
theorem store_ce {X:World} {b:Nat} {T:TypeId} {cs:List Value} (h:At X b cs T) (hc:cs.length=3) (x:G.Cel) :
 (Instr.storeAt 44 (.pointer (some ⟨b,0,.none⟩)) (.agg #[.int .i64 x.e,.int .i64 x.n,.string x.d])).run Tryz.prog X=.ok () (X.setCells b 0 x.vs) :=
 run_storeAt_mid X b 0 _ x.vs.toArray (h.there 0 3 (by omega)) szCe (all_oneCell_toArray (by
  intro v hv
  simp only [G.Cel.vs,List.mem_cons,List.not_mem_nil,or_false] at hv
  rcases hv with rfl|rfl|rfl <;> rfl))
set_option maxRecDepth 100000 in
set_option maxHeartbeats 16000000 in
theorem read_any {w0 wa:World} {t:Nat} {Ma:TM} {p:TP} (h:aa w0 wa t Ma p) (c:CmD) (k:Nat) (hk:c.at'=k) (hk8:k<8) :
 Calls Tryz.prog 69 #[.pointer (some ⟨t,0,.none⟩),.agg c.vs.toArray] wa fun r w'=>r=.returned (.tuple #[.string (j4 Ma c).1,ai (j4 Ma c).2.1])∧aa w0 w' t (j4 Ma c).2.2 p∧ae p.F p.F wa w':=by
 obtain ⟨X,hX,a0,bX,sX⟩:=Go.Proofs.YtpkhdihoijkamaaGreatDoor.D.one wa (.cells c.vs.toArray 24)
 have A3:At X wa.heap.size c.vs 24:=a0
 have HTa:Hid (aa w0 X t Ma p):=h.later bX
 have HMa:Hid (ae p.F p.F wa X):=ae.of bX (Nat.le_refl _)
 have hoff:¬p.F wa.heap.size:=fun f=>by have:=h.foot _ f;omega
 have HLC:Hid ((Instr.loadAt 24 (.pointer (some ⟨wa.heap.size,0,.none⟩))).run Tryz.prog X=.ok (.agg c.vs.toArray) X):=vv A3
 have HK:Hid (c.at'=k∧k<8):=⟨hk,hk8⟩
 clear a0 bX sX h hk hk8
 go_enter Tryz.func69,Tryz.ntmps69
 go_upto_region 1 with fail
 rw [←hX]
 clear hX
 obtain ⟨b3,hb3⟩:∃ b3,wa.heap.size=b3:=⟨_,rfl⟩
 rw [hb3] at A3 hoff HLC ⊢
 clear hb3
 go_wp2_with (with_reducible refine ak HLC.out rfl rfl ?_)
 refine (allow_any HTa.out c).mono ?_
 rintro r w ⟨rfl,t1,m1⟩
 have HX3:Hid (At w b3 c.vs 24):=m1.at A3 hoff
 replace HMa:Hid (ae p.F p.F wa w):=HMa.out.trans m1
 by_cases hal:ji Ma c=0
 case neg =>
  have HX:Hid (j4 Ma c=(ll,ji Ma c,ic Ma c)):=by show _=_;unfold j4;rw [if_neg hal]
  have HE:Hid (ai (ji Ma c)=.iface 96 (.int .i64 (ji Ma c))):=ut hal
  have HT9:Hid (aa w0 w t (ic Ma c) p):=t1
  rw [HE.out]
  clear hal t1 m1 A3 hoff HLC HTa
  go_wp2
  go_ret2
  exact ⟨by rw [HX.out,HE.out];rfl,by rw [HX.out];exact HT9.out,HMa.out⟩
 obtain ⟨M,hM⟩:∃ M,ic Ma c=M:=⟨_,rfl⟩
 have HX:Hid (j4 Ma c=if gotB M=true then ((gotC M k).d,0,gotM M k) else (ll,7,M)):=by
  show _=_
  unfold j4
  rw [if_pos hal,hM,HK.out.1]
  rfl
 rw [hM] at t1
 rw [hal,show ai 0=.nilIface from rfl]
 have HT:Hid (aa w0 w t M p):=t1
 clear hal t1 m1 A3 hoff HLC HTa hM X
 have HF:Hid (∀ W,Calls Tryz.prog 103 #[.agg (G.grV M.rs M.up).toArray,.int .i64 M.e,.int .i64 c.at'] W fun r w'=>r=.returned (.tuple #[.agg (G.grV (gotM M k).rs M.up).toArray,.agg #[.int .i64 (gotC M k).e,.int .i64 (gotC M k).n,.string (gotC M k).d],.bool (gotB M)])∧Below W.heap.size W w') :=
  fun W=>by rw [HK.out.1];exact G.gread_any M.rs M.up M.e k W HT.out.ok HK.out.2
 have HG:Hid (G.GOK (gotM M k).rs M.up):=G.readG_ok HT.out.ok _ _
 obtain ⟨rs2,hrs⟩:∃ rs2,(gotM M k).rs=rs2:=⟨_,rfl⟩
 have HRS:Hid (gotM M k={ M with rs:=rs2 }):=by show _=_;rw [←hrs];rfl
 obtain ⟨ce,hce⟩:∃ ce,gotC M k=ce:=⟨_,rfl⟩
 obtain ⟨okb,hokb⟩:∃ okb,gotB M=okb:=⟨_,rfl⟩
 rw [hrs,hokb,hce] at HF
 rw [HRS.out,hokb,hce] at HX
 rw [hrs] at HG
 clear hrs hokb hce HRS
 go_upto_region 4 with fail
 refine ql (S:=fun w'=>aa w0 w' t M p∧At w' b3 c.vs 24) (by kernel_rfl) ?_
 intro V hV bV sV
 have HB:Hid (Below w.heap.size w V):=bV
 have HS:Hid (aa w0 V t M p∧At V b3 c.vs 24):=⟨HT.out.later HB.out,HX3.out.later HB.out HX3.out.lt⟩
 clear hV bV sV
 refine' joinW2 (F:=fun Y c13 c14=>Below w.heap.size w Y∧(aa w0 Y t M p∧At Y b3 c.vs 24)∧G.At Y c13 G.z78 51∧w.heap.size≤c13∧At Y c14 z3 44∧w.heap.size≤c14∧c13≠c14) (h1:=?main) (h2:=?rest)
 case main =>
  intro HJ
  refine wpG 0 (.pointer (some ⟨t,0,.none⟩)) HS.out ?_
  refine wpG 4 (.pointer (some ⟨t,0,.none⟩)) HS.out ?_
  refine wpG 6 (.pointer (some ⟨b3,5,.none⟩)) HS.out ?_
  (try simp [Act.put])
  refine wpG 1 (.pointer (some ⟨t,0,.none⟩)) HS.out ?_
  refine wpT 7 (.int .i64 c.at') (.inl ⟨rfl,fun w' hw'=>?_⟩) HS.out ?_
  ·have hc:w'.cell? ⟨b3,5,.none⟩=some (.int .i64 c.at'):=hw'.2.cell 5;go_simp
  (try simp [Act.put])
  refine wpG 2 (.pointer (some ⟨t,1,.none⟩)) HS.out ?_
  (try simp [Act.put])
  refine wpT 3 (.agg (G.grV M.rs M.up).toArray) (.inl ⟨rfl,fun w' hw'=>?_⟩) HS.out ?_
  ·exact jc hw'.1.loadG rfl
  (try simp [Act.put])
  refine wpC 5 13 14 ?_ ?_ ?_
  ·refine wpS ?_
   go_wp2_with fail
   refine (aa.ep HS.out.1).mono ?_
   rintro r Y1 ⟨rfl,hW⟩
   obtain rfl:=hW.symm
   refine ⟨HS.out,?_⟩
   (try simp [Act.put])
   refine wpC 8 13 14 ?_ ?_ ?_
   ·refine wpS ?_
    go_wp2_with fail
    refine (HF.out _).mono ?_
    rintro r Y2 ⟨rfl,b1⟩
    replace HB:Hid (Below w.heap.size w Y2):=bu HB.out b1
    replace HS:Hid (aa w0 Y2 t M p∧At Y2 b3 c.vs 24):=⟨HT.out.later HB.out,(HS.out.2).later b1 (HS.out.2).lt⟩
    clear b1
    refine ⟨HS.out,?_⟩
    (try simp [Act.put])
    refine wpG 9 (.tuple #[.agg (G.grV rs2 M.up).toArray,.agg #[.int .i64 ce.e,.int .i64 ce.n,.string ce.d],.bool okb]) HS.out ?_
    (try simp [Act.put])
    refine wpG 10 (.agg (G.grV rs2 M.up).toArray) HS.out ?_
    refine wpG 11 (.agg #[.int .i64 ce.e,.int .i64 ce.n,.string ce.d]) HS.out ?_
    refine wpG 12 (.bool okb) HS.out ?_
    (try simp [Act.put])
    refine wpB 13 14 ?_ ?_
    ·obtain ⟨Y3,hY,a5,b5,s5⟩:=Go.Proofs.YtpkhdihoijkamaaGreatDoor.D.one Y2 (.cells G.z78.toArray 51)
     refine wpS ?_
     go_wp2_with fail
     rw [←hY]
     clear hY
     have HA13:Hid (G.At Y3 Y2.heap.size G.z78 51):=a5
     have HL13:Hid (w.heap.size≤Y2.heap.size):=HB.out.size
     obtain ⟨c13,hc⟩:∃ c13,Y2.heap.size=c13:=⟨_,rfl⟩
     replace HB:Hid (Below w.heap.size w Y3):=bu HB.out b5
     replace HS:Hid (aa w0 Y3 t M p∧At Y3 b3 c.vs 24):=⟨HT.out.later HB.out,(HS.out.2).later b5 (HS.out.2).lt⟩
     rw [hc] at HA13 HL13 ⊢
     clear a5 b5 s5 hc
     refine ⟨HS.out,?_⟩
     (try simp [Act.put])
     refine wpA 14 ?_
     obtain ⟨Y4,hY,a5,b5,s5⟩:=Go.Proofs.YtpkhdihoijkamaaGreatDoor.D.one Y3 (.cells #[.int .i64 0,.int .i64 0,.string ⟨#[]⟩] 44)
     refine wpS ?_
     go_wp2_with fail
     rw [←hY]
     clear hY
     have HA14:Hid (At Y4 Y3.heap.size z3 44):=a5
     have HL14:Hid (w.heap.size≤Y3.heap.size):=HB.out.size
     obtain ⟨c14,hc⟩:∃ c14,Y3.heap.size=c14:=⟨_,rfl⟩
     replace HB:Hid (Below w.heap.size w Y4):=bu HB.out b5
     have HN1314:Hid (c13≠c14):=by show _≠_;rw [←hc];have:=HA13.out.lt;omega
     replace HA13:Hid (G.At Y4 c13 G.z78 51):=HA13.out.later b5 HA13.out.lt
     replace HS:Hid (aa w0 Y4 t M p∧At Y4 b3 c.vs 24):=⟨HT.out.later HB.out,(HS.out.2).later b5 (HS.out.2).lt⟩
     rw [hc] at HA14 HL14 ⊢
     clear a5 b5 s5 hc
     refine ⟨HS.out,?_⟩
     (try simp [Act.put])
     exact HJ.out Y4 c13 c14 ⟨HB.out,HS.out,HA13.out,HL13.out,HA14.out,HL14.out,HN1314.out⟩
    ·obtain ⟨Y5,hY,a5,b5,s5⟩:=Go.Proofs.YtpkhdihoijkamaaGreatDoor.D.one Y2 (.cells #[.int .i64 0,.int .i64 0,.string ⟨#[]⟩] 44)
     refine wpS ?_
     go_wp2_with fail
     rw [←hY]
     clear hY
     have HA14:Hid (At Y5 Y2.heap.size z3 44):=a5
     have HL14:Hid (w.heap.size≤Y2.heap.size):=HB.out.size
     obtain ⟨c14,hc⟩:∃ c14,Y2.heap.size=c14:=⟨_,rfl⟩
     replace HB:Hid (Below w.heap.size w Y5):=bu HB.out b5
     replace HS:Hid (aa w0 Y5 t M p∧At Y5 b3 c.vs 24):=⟨HT.out.later HB.out,(HS.out.2).later b5 (HS.out.2).lt⟩
     rw [hc] at HA14 HL14 ⊢
     clear a5 b5 s5 hc
     refine ⟨HS.out,?_⟩
     (try simp [Act.put])
     refine wpA 13 ?_
     obtain ⟨Y6,hY,a5,b5,s5⟩:=Go.Proofs.YtpkhdihoijkamaaGreatDoor.D.one Y5 (.cells G.z78.toArray 51)
     refine wpS ?_
     go_wp2_with fail
     rw [←hY]
     clear hY
     have HA13:Hid (G.At Y6 Y5.heap.size G.z78 51):=a5
     have HL13:Hid (w.heap.size≤Y5.heap.size):=HB.out.size
     obtain ⟨c13,hc⟩:∃ c13,Y5.heap.size=c13:=⟨_,rfl⟩
     replace HB:Hid (Below w.heap.size w Y6):=bu HB.out b5
     have HN1413:Hid (c14≠c13):=by show _≠_;rw [←hc];have:=HA14.out.lt;omega
     replace HA14:Hid (At Y6 c14 z3 44):=HA14.out.later b5 HA14.out.lt
     replace HS:Hid (aa w0 Y6 t M p∧At Y6 b3 c.vs 24):=⟨HT.out.later HB.out,(HS.out.2).later b5 (HS.out.2).lt⟩
     rw [hc] at HA13 HL13 ⊢
     clear a5 b5 s5 hc
     refine ⟨HS.out,?_⟩
     (try simp [Act.put])
     exact HJ.out Y6 c13 c14 ⟨HB.out,HS.out,HA13.out,HL13.out,HA14.out,HL14.out,HN1413.out.symm⟩
   ·obtain ⟨Y7,hY,a5,b5,s5⟩:=Go.Proofs.YtpkhdihoijkamaaGreatDoor.D.one V (.cells G.z78.toArray 51)
    refine wpS ?_
    go_wp2_with fail
    rw [←hY]
    clear hY
    have HA13:Hid (G.At Y7 V.heap.size G.z78 51):=a5
    have HL13:Hid (w.heap.size≤V.heap.size):=HB.out.size
    obtain ⟨c13,hc⟩:∃ c13,V.heap.size=c13:=⟨_,rfl⟩
    replace HB:Hid (Below w.heap.size w Y7):=bu HB.out b5
    replace HS:Hid (aa w0 Y7 t M p∧At Y7 b3 c.vs 24):=⟨HT.out.later HB.out,(HS.out.2).later b5 (HS.out.2).lt⟩
    rw [hc] at HA13 HL13 ⊢
    clear a5 b5 s5 hc
    refine ⟨HS.out,?_⟩
    (try simp [Act.put])
    refine wpB 8 14 ?_ ?_
    ·refine wpS ?_
     go_wp2_with fail
     refine (HF.out _).mono ?_
     rintro r Y8 ⟨rfl,b1⟩
     replace HB:Hid (Below w.heap.size w Y8):=bu HB.out b1
     replace HA13:Hid (G.At Y8 c13 G.z78 51):=HA13.out.later b1 HA13.out.lt
     replace HS:Hid (aa w0 Y8 t M p∧At Y8 b3 c.vs 24):=⟨HT.out.later HB.out,(HS.out.2).later b1 (HS.out.2).lt⟩
     clear b1
     refine ⟨HS.out,?_⟩
     (try simp [Act.put])
     refine wpG 9 (.tuple #[.agg (G.grV rs2 M.up).toArray,.agg #[.int .i64 ce.e,.int .i64 ce.n,.string ce.d],.bool okb]) HS.out ?_
     (try simp [Act.put])
     refine wpG 10 (.agg (G.grV rs2 M.up).toArray) HS.out ?_
     refine wpG 11 (.agg #[.int .i64 ce.e,.int .i64 ce.n,.string ce.d]) HS.out ?_
     refine wpG 12 (.bool okb) HS.out ?_
     (try simp [Act.put])
     refine wpA 14 ?_
     obtain ⟨Y9,hY,a5,b5,s5⟩:=Go.Proofs.YtpkhdihoijkamaaGreatDoor.D.one Y8 (.cells #[.int .i64 0,.int .i64 0,.string ⟨#[]⟩] 44)
     refine wpS ?_
     go_wp2_with fail
     rw [←hY]
     clear hY
     have HA14:Hid (At Y9 Y8.heap.size z3 44):=a5
     have HL14:Hid (w.heap.size≤Y8.heap.size):=HB.out.size
     obtain ⟨c14,hc⟩:∃ c14,Y8.heap.size=c14:=⟨_,rfl⟩
     replace HB:Hid (Below w.heap.size w Y9):=bu HB.out b5
     have HN1314:Hid (c13≠c14):=by show _≠_;rw [←hc];have:=HA13.out.lt;omega
     replace HA13:Hid (G.At Y9 c13 G.z78 51):=HA13.out.later b5 HA13.out.lt
     replace HS:Hid (aa w0 Y9 t M p∧At Y9 b3 c.vs 24):=⟨HT.out.later HB.out,(HS.out.2).later b5 (HS.out.2).lt⟩
     rw [hc] at HA14 HL14 ⊢
     clear a5 b5 s5 hc
     refine ⟨HS.out,?_⟩
     (try simp [Act.put])
     exact HJ.out Y9 c13 c14 ⟨HB.out,HS.out,HA13.out,HL13.out,HA14.out,HL14.out,HN1314.out⟩
    ·obtain ⟨Y10,hY,a5,b5,s5⟩:=Go.Proofs.YtpkhdihoijkamaaGreatDoor.D.one Y7 (.cells #[.int .i64 0,.int .i64 0,.string ⟨#[]⟩] 44)
     refine wpS ?_
     go_wp2_with fail
     rw [←hY]
     clear hY
     have HA14:Hid (At Y10 Y7.heap.size z3 44):=a5
     have HL14:Hid (w.heap.size≤Y7.heap.size):=HB.out.size
     obtain ⟨c14,hc⟩:∃ c14,Y7.heap.size=c14:=⟨_,rfl⟩
     replace HB:Hid (Below w.heap.size w Y10):=bu HB.out b5
     have HN1314:Hid (c13≠c14):=by show _≠_;rw [←hc];have:=HA13.out.lt;omega
     replace HA13:Hid (G.At Y10 c13 G.z78 51):=HA13.out.later b5 HA13.out.lt
     replace HS:Hid (aa w0 Y10 t M p∧At Y10 b3 c.vs 24):=⟨HT.out.later HB.out,(HS.out.2).later b5 (HS.out.2).lt⟩
     rw [hc] at HA14 HL14 ⊢
     clear a5 b5 s5 hc
     refine ⟨HS.out,?_⟩
     (try simp [Act.put])
     refine wpA 8 (wpS ?_)
     go_wp2_with fail
     refine (HF.out _).mono ?_
     rintro r Y11 ⟨rfl,b1⟩
     replace HB:Hid (Below w.heap.size w Y11):=bu HB.out b1
     replace HA13:Hid (G.At Y11 c13 G.z78 51):=HA13.out.later b1 HA13.out.lt
     replace HA14:Hid (At Y11 c14 z3 44):=HA14.out.later b1 HA14.out.lt
     replace HS:Hid (aa w0 Y11 t M p∧At Y11 b3 c.vs 24):=⟨HT.out.later HB.out,(HS.out.2).later b1 (HS.out.2).lt⟩
     clear b1
     refine ⟨HS.out,?_⟩
     (try simp [Act.put])
     refine wpG 9 (.tuple #[.agg (G.grV rs2 M.up).toArray,.agg #[.int .i64 ce.e,.int .i64 ce.n,.string ce.d],.bool okb]) HS.out ?_
     (try simp [Act.put])
     refine wpG 10 (.agg (G.grV rs2 M.up).toArray) HS.out ?_
     refine wpG 11 (.agg #[.int .i64 ce.e,.int .i64 ce.n,.string ce.d]) HS.out ?_
     refine wpG 12 (.bool okb) HS.out ?_
     (try simp [Act.put])
     exact HJ.out Y11 c13 c14 ⟨HB.out,HS.out,HA13.out,HL13.out,HA14.out,HL14.out,HN1314.out⟩
   ·obtain ⟨Y12,hY,a5,b5,s5⟩:=Go.Proofs.YtpkhdihoijkamaaGreatDoor.D.one V (.cells #[.int .i64 0,.int .i64 0,.string ⟨#[]⟩] 44)
    refine wpS ?_
    go_wp2_with fail
    rw [←hY]
    clear hY
    have HA14:Hid (At Y12 V.heap.size z3 44):=a5
    have HL14:Hid (w.heap.size≤V.heap.size):=HB.out.size
    obtain ⟨c14,hc⟩:∃ c14,V.heap.size=c14:=⟨_,rfl⟩
    replace HB:Hid (Below w.heap.size w Y12):=bu HB.out b5
    replace HS:Hid (aa w0 Y12 t M p∧At Y12 b3 c.vs 24):=⟨HT.out.later HB.out,(HS.out.2).later b5 (HS.out.2).lt⟩
    rw [hc] at HA14 HL14 ⊢
    clear a5 b5 s5 hc
    refine ⟨HS.out,?_⟩
    (try simp [Act.put])
    refine wpB 8 13 ?_ ?_
    ·refine wpS ?_
     go_wp2_with fail
     refine (HF.out _).mono ?_
     rintro r Y13 ⟨rfl,b1⟩
     replace HB:Hid (Below w.heap.size w Y13):=bu HB.out b1
     replace HA14:Hid (At Y13 c14 z3 44):=HA14.out.later b1 HA14.out.lt
     replace HS:Hid (aa w0 Y13 t M p∧At Y13 b3 c.vs 24):=⟨HT.out.later HB.out,(HS.out.2).later b1 (HS.out.2).lt⟩
     clear b1
     refine ⟨HS.out,?_⟩
     (try simp [Act.put])
     refine wpG 9 (.tuple #[.agg (G.grV rs2 M.up).toArray,.agg #[.int .i64 ce.e,.int .i64 ce.n,.string ce.d],.bool okb]) HS.out ?_
     (try simp [Act.put])
     refine wpG 10 (.agg (G.grV rs2 M.up).toArray) HS.out ?_
     refine wpG 11 (.agg #[.int .i64 ce.e,.int .i64 ce.n,.string ce.d]) HS.out ?_
     refine wpG 12 (.bool okb) HS.out ?_
     (try simp [Act.put])
     refine wpA 13 ?_
     obtain ⟨Y14,hY,a5,b5,s5⟩:=Go.Proofs.YtpkhdihoijkamaaGreatDoor.D.one Y13 (.cells G.z78.toArray 51)
     refine wpS ?_
     go_wp2_with fail
     rw [←hY]
     clear hY
     have HA13:Hid (G.At Y14 Y13.heap.size G.z78 51):=a5
     have HL13:Hid (w.heap.size≤Y13.heap.size):=HB.out.size
     obtain ⟨c13,hc⟩:∃ c13,Y13.heap.size=c13:=⟨_,rfl⟩
     replace HB:Hid (Below w.heap.size w Y14):=bu HB.out b5
     have HN1413:Hid (c14≠c13):=by show _≠_;rw [←hc];have:=HA14.out.lt;omega
     replace HA14:Hid (At Y14 c14 z3 44):=HA14.out.later b5 HA14.out.lt
     replace HS:Hid (aa w0 Y14 t M p∧At Y14 b3 c.vs 24):=⟨HT.out.later HB.out,(HS.out.2).later b5 (HS.out.2).lt⟩
     rw [hc] at HA13 HL13 ⊢
     clear a5 b5 s5 hc
     refine ⟨HS.out,?_⟩
     (try simp [Act.put])
     exact HJ.out Y14 c13 c14 ⟨HB.out,HS.out,HA13.out,HL13.out,HA14.out,HL14.out,HN1413.out.symm⟩
    ·obtain ⟨Y15,hY,a5,b5,s5⟩:=Go.Proofs.YtpkhdihoijkamaaGreatDoor.D.one Y12 (.cells G.z78.toArray 51)
     refine wpS ?_
     go_wp2_with fail
     rw [←hY]
     clear hY
     have HA13:Hid (G.At Y15 Y12.heap.size G.z78 51):=a5
     have HL13:Hid (w.heap.size≤Y12.heap.size):=HB.out.size
     obtain ⟨c13,hc⟩:∃ c13,Y12.heap.size=c13:=⟨_,rfl⟩
     replace HB:Hid (Below w.heap.size w Y15):=bu HB.out b5
     have HN1413:Hid (c14≠c13):=by show _≠_;rw [←hc];have:=HA14.out.lt;omega
     replace HA14:Hid (At Y15 c14 z3 44):=HA14.out.later b5 HA14.out.lt
     replace HS:Hid (aa w0 Y15 t M p∧At Y15 b3 c.vs 24):=⟨HT.out.later HB.out,(HS.out.2).later b5 (HS.out.2).lt⟩
     rw [hc] at HA13 HL13 ⊢
     clear a5 b5 s5 hc
     refine ⟨HS.out,?_⟩
     (try simp [Act.put])
     refine wpA 8 (wpS ?_)
     go_wp2_with fail
     refine (HF.out _).mono ?_
     rintro r Y16 ⟨rfl,b1⟩
     replace HB:Hid (Below w.heap.size w Y16):=bu HB.out b1
     replace HA14:Hid (At Y16 c14 z3 44):=HA14.out.later b1 HA14.out.lt
     replace HA13:Hid (G.At Y16 c13 G.z78 51):=HA13.out.later b1 HA13.out.lt
     replace HS:Hid (aa w0 Y16 t M p∧At Y16 b3 c.vs 24):=⟨HT.out.later HB.out,(HS.out.2).later b1 (HS.out.2).lt⟩
     clear b1
     refine ⟨HS.out,?_⟩
     (try simp [Act.put])
     refine wpG 9 (.tuple #[.agg (G.grV rs2 M.up).toArray,.agg #[.int .i64 ce.e,.int .i64 ce.n,.string ce.d],.bool okb]) HS.out ?_
     (try simp [Act.put])
     refine wpG 10 (.agg (G.grV rs2 M.up).toArray) HS.out ?_
     refine wpG 11 (.agg #[.int .i64 ce.e,.int .i64 ce.n,.string ce.d]) HS.out ?_
     refine wpG 12 (.bool okb) HS.out ?_
     (try simp [Act.put])
     exact HJ.out Y16 c13 c14 ⟨HB.out,HS.out,HA13.out,HL13.out,HA14.out,HL14.out,HN1413.out.symm⟩
  ·obtain ⟨Y17,hY,a5,b5,s5⟩:=Go.Proofs.YtpkhdihoijkamaaGreatDoor.D.one V (.cells G.z78.toArray 51)
   refine wpS ?_
   go_wp2_with fail
   rw [←hY]
   clear hY
   have HA13:Hid (G.At Y17 V.heap.size G.z78 51):=a5
   have HL13:Hid (w.heap.size≤V.heap.size):=HB.out.size
   obtain ⟨c13,hc⟩:∃ c13,V.heap.size=c13:=⟨_,rfl⟩
   replace HB:Hid (Below w.heap.size w Y17):=bu HB.out b5
   replace HS:Hid (aa w0 Y17 t M p∧At Y17 b3 c.vs 24):=⟨HT.out.later HB.out,(HS.out.2).later b5 (HS.out.2).lt⟩
   rw [hc] at HA13 HL13 ⊢
   clear a5 b5 s5 hc
   refine ⟨HS.out,?_⟩
   (try simp [Act.put])
   refine wpB 5 14 ?_ ?_
   ·refine wpS ?_
    go_wp2_with fail
    refine (aa.ep HS.out.1).mono ?_
    rintro r Y18 ⟨rfl,hW⟩
    obtain rfl:=hW.symm
    refine ⟨HS.out,?_⟩
    (try simp [Act.put])
    refine wpB 8 14 ?_ ?_
    ·refine wpS ?_
     go_wp2_with fail
     refine (HF.out _).mono ?_
     rintro r Y19 ⟨rfl,b1⟩
     replace HB:Hid (Below w.heap.size w Y19):=bu HB.out b1
     replace HA13:Hid (G.At Y19 c13 G.z78 51):=HA13.out.later b1 HA13.out.lt
     replace HS:Hid (aa w0 Y19 t M p∧At Y19 b3 c.vs 24):=⟨HT.out.later HB.out,(HS.out.2).later b1 (HS.out.2).lt⟩
     clear b1
     refine ⟨HS.out,?_⟩
     (try simp [Act.put])
     refine wpG 9 (.tuple #[.agg (G.grV rs2 M.up).toArray,.agg #[.int .i64 ce.e,.int .i64 ce.n,.string ce.d],.bool okb]) HS.out ?_
     (try simp [Act.put])
     refine wpG 10 (.agg (G.grV rs2 M.up).toArray) HS.out ?_
     refine wpG 11 (.agg #[.int .i64 ce.e,.int .i64 ce.n,.string ce.d]) HS.out ?_
     refine wpG 12 (.bool okb) HS.out ?_
     (try simp [Act.put])
     refine wpA 14 ?_
     obtain ⟨Y20,hY,a5,b5,s5⟩:=Go.Proofs.YtpkhdihoijkamaaGreatDoor.D.one Y19 (.cells #[.int .i64 0,.int .i64 0,.string ⟨#[]⟩] 44)
     refine wpS ?_
     go_wp2_with fail
     rw [←hY]
     clear hY
     have HA14:Hid (At Y20 Y19.heap.size z3 44):=a5
     have HL14:Hid (w.heap.size≤Y19.heap.size):=HB.out.size
     obtain ⟨c14,hc⟩:∃ c14,Y19.heap.size=c14:=⟨_,rfl⟩
     replace HB:Hid (Below w.heap.size w Y20):=bu HB.out b5
     have HN1314:Hid (c13≠c14):=by show _≠_;rw [←hc];have:=HA13.out.lt;omega
     replace HA13:Hid (G.At Y20 c13 G.z78 51):=HA13.out.later b5 HA13.out.lt
     replace HS:Hid (aa w0 Y20 t M p∧At Y20 b3 c.vs 24):=⟨HT.out.later HB.out,(HS.out.2).later b5 (HS.out.2).lt⟩
     rw [hc] at HA14 HL14 ⊢
     clear a5 b5 s5 hc
     refine ⟨HS.out,?_⟩
     (try simp [Act.put])
     exact HJ.out Y20 c13 c14 ⟨HB.out,HS.out,HA13.out,HL13.out,HA14.out,HL14.out,HN1314.out⟩
    ·obtain ⟨Y21,hY,a5,b5,s5⟩:=Go.Proofs.YtpkhdihoijkamaaGreatDoor.D.one Y17 (.cells #[.int .i64 0,.int .i64 0,.string ⟨#[]⟩] 44)
     refine wpS ?_
     go_wp2_with fail
     rw [←hY]
     clear hY
     have HA14:Hid (At Y21 Y17.heap.size z3 44):=a5
     have HL14:Hid (w.heap.size≤Y17.heap.size):=HB.out.size
     obtain ⟨c14,hc⟩:∃ c14,Y17.heap.size=c14:=⟨_,rfl⟩
     replace HB:Hid (Below w.heap.size w Y21):=bu HB.out b5
     have HN1314:Hid (c13≠c14):=by show _≠_;rw [←hc];have:=HA13.out.lt;omega
     replace HA13:Hid (G.At Y21 c13 G.z78 51):=HA13.out.later b5 HA13.out.lt
     replace HS:Hid (aa w0 Y21 t M p∧At Y21 b3 c.vs 24):=⟨HT.out.later HB.out,(HS.out.2).later b5 (HS.out.2).lt⟩
     rw [hc] at HA14 HL14 ⊢
     clear a5 b5 s5 hc
     refine ⟨HS.out,?_⟩
     (try simp [Act.put])
     refine wpA 8 (wpS ?_)
     go_wp2_with fail
     refine (HF.out _).mono ?_
     rintro r Y22 ⟨rfl,b1⟩
     replace HB:Hid (Below w.heap.size w Y22):=bu HB.out b1
     replace HA13:Hid (G.At Y22 c13 G.z78 51):=HA13.out.later b1 HA13.out.lt
     replace HA14:Hid (At Y22 c14 z3 44):=HA14.out.later b1 HA14.out.lt
     replace HS:Hid (aa w0 Y22 t M p∧At Y22 b3 c.vs 24):=⟨HT.out.later HB.out,(HS.out.2).later b1 (HS.out.2).lt⟩
     clear b1
     refine ⟨HS.out,?_⟩
     (try simp [Act.put])
     refine wpG 9 (.tuple #[.agg (G.grV rs2 M.up).toArray,.agg #[.int .i64 ce.e,.int .i64 ce.n,.string ce.d],.bool okb]) HS.out ?_
     (try simp [Act.put])
     refine wpG 10 (.agg (G.grV rs2 M.up).toArray) HS.out ?_
     refine wpG 11 (.agg #[.int .i64 ce.e,.int .i64 ce.n,.string ce.d]) HS.out ?_
     refine wpG 12 (.bool okb) HS.out ?_
     (try simp [Act.put])
     exact HJ.out Y22 c13 c14 ⟨HB.out,HS.out,HA13.out,HL13.out,HA14.out,HL14.out,HN1314.out⟩
   ·obtain ⟨Y23,hY,a5,b5,s5⟩:=Go.Proofs.YtpkhdihoijkamaaGreatDoor.D.one Y17 (.cells #[.int .i64 0,.int .i64 0,.string ⟨#[]⟩] 44)
    refine wpS ?_
    go_wp2_with fail
    rw [←hY]
    clear hY
    have HA14:Hid (At Y23 Y17.heap.size z3 44):=a5
    have HL14:Hid (w.heap.size≤Y17.heap.size):=HB.out.size
    obtain ⟨c14,hc⟩:∃ c14,Y17.heap.size=c14:=⟨_,rfl⟩
    replace HB:Hid (Below w.heap.size w Y23):=bu HB.out b5
    have HN1314:Hid (c13≠c14):=by show _≠_;rw [←hc];have:=HA13.out.lt;omega
    replace HA13:Hid (G.At Y23 c13 G.z78 51):=HA13.out.later b5 HA13.out.lt
    replace HS:Hid (aa w0 Y23 t M p∧At Y23 b3 c.vs 24):=⟨HT.out.later HB.out,(HS.out.2).later b5 (HS.out.2).lt⟩
    rw [hc] at HA14 HL14 ⊢
    clear a5 b5 s5 hc
    refine ⟨HS.out,?_⟩
    (try simp [Act.put])
    refine wpA 5 (wpS ?_)
    go_wp2_with fail
    refine (aa.ep HS.out.1).mono ?_
    rintro r Y24 ⟨rfl,hW⟩
    obtain rfl:=hW.symm
    refine ⟨HS.out,?_⟩
    (try simp [Act.put])
    refine wpA 8 (wpS ?_)
    go_wp2_with fail
    refine (HF.out _).mono ?_
    rintro r Y25 ⟨rfl,b1⟩
    replace HB:Hid (Below w.heap.size w Y25):=bu HB.out b1
    replace HA13:Hid (G.At Y25 c13 G.z78 51):=HA13.out.later b1 HA13.out.lt
    replace HA14:Hid (At Y25 c14 z3 44):=HA14.out.later b1 HA14.out.lt
    replace HS:Hid (aa w0 Y25 t M p∧At Y25 b3 c.vs 24):=⟨HT.out.later HB.out,(HS.out.2).later b1 (HS.out.2).lt⟩
    clear b1
    refine ⟨HS.out,?_⟩
    (try simp [Act.put])
    refine wpG 9 (.tuple #[.agg (G.grV rs2 M.up).toArray,.agg #[.int .i64 ce.e,.int .i64 ce.n,.string ce.d],.bool okb]) HS.out ?_
    (try simp [Act.put])
    refine wpG 10 (.agg (G.grV rs2 M.up).toArray) HS.out ?_
    refine wpG 11 (.agg #[.int .i64 ce.e,.int .i64 ce.n,.string ce.d]) HS.out ?_
    refine wpG 12 (.bool okb) HS.out ?_
    (try simp [Act.put])
    exact HJ.out Y25 c13 c14 ⟨HB.out,HS.out,HA13.out,HL13.out,HA14.out,HL14.out,HN1314.out⟩
  ·obtain ⟨Y26,hY,a5,b5,s5⟩:=Go.Proofs.YtpkhdihoijkamaaGreatDoor.D.one V (.cells #[.int .i64 0,.int .i64 0,.string ⟨#[]⟩] 44)
   refine wpS ?_
   go_wp2_with fail
   rw [←hY]
   clear hY
   have HA14:Hid (At Y26 V.heap.size z3 44):=a5
   have HL14:Hid (w.heap.size≤V.heap.size):=HB.out.size
   obtain ⟨c14,hc⟩:∃ c14,V.heap.size=c14:=⟨_,rfl⟩
   replace HB:Hid (Below w.heap.size w Y26):=bu HB.out b5
   replace HS:Hid (aa w0 Y26 t M p∧At Y26 b3 c.vs 24):=⟨HT.out.later HB.out,(HS.out.2).later b5 (HS.out.2).lt⟩
   rw [hc] at HA14 HL14 ⊢
   clear a5 b5 s5 hc
   refine ⟨HS.out,?_⟩
   (try simp [Act.put])
   refine wpB 5 13 ?_ ?_
   ·refine wpS ?_
    go_wp2_with fail
    refine (aa.ep HS.out.1).mono ?_
    rintro r Y27 ⟨rfl,hW⟩
    obtain rfl:=hW.symm
    refine ⟨HS.out,?_⟩
    (try simp [Act.put])
    refine wpB 8 13 ?_ ?_
    ·refine wpS ?_
     go_wp2_with fail
     refine (HF.out _).mono ?_
     rintro r Y28 ⟨rfl,b1⟩
     replace HB:Hid (Below w.heap.size w Y28):=bu HB.out b1
     replace HA14:Hid (At Y28 c14 z3 44):=HA14.out.later b1 HA14.out.lt
     replace HS:Hid (aa w0 Y28 t M p∧At Y28 b3 c.vs 24):=⟨HT.out.later HB.out,(HS.out.2).later b1 (HS.out.2).lt⟩
     clear b1
     refine ⟨HS.out,?_⟩
     (try simp [Act.put])
     refine wpG 9 (.tuple #[.agg (G.grV rs2 M.up).toArray,.agg #[.int .i64 ce.e,.int .i64 ce.n,.string ce.d],.bool okb]) HS.out ?_
     (try simp [Act.put])
     refine wpG 10 (.agg (G.grV rs2 M.up).toArray) HS.out ?_
     refine wpG 11 (.agg #[.int .i64 ce.e,.int .i64 ce.n,.string ce.d]) HS.out ?_
     refine wpG 12 (.bool okb) HS.out ?_
     (try simp [Act.put])
     refine wpA 13 ?_
     obtain ⟨Y29,hY,a5,b5,s5⟩:=Go.Proofs.YtpkhdihoijkamaaGreatDoor.D.one Y28 (.cells G.z78.toArray 51)
     refine wpS ?_
     go_wp2_with fail
     rw [←hY]
     clear hY
     have HA13:Hid (G.At Y29 Y28.heap.size G.z78 51):=a5
     have HL13:Hid (w.heap.size≤Y28.heap.size):=HB.out.size
     obtain ⟨c13,hc⟩:∃ c13,Y28.heap.size=c13:=⟨_,rfl⟩
     replace HB:Hid (Below w.heap.size w Y29):=bu HB.out b5
     have HN1413:Hid (c14≠c13):=by show _≠_;rw [←hc];have:=HA14.out.lt;omega
     replace HA14:Hid (At Y29 c14 z3 44):=HA14.out.later b5 HA14.out.lt
     replace HS:Hid (aa w0 Y29 t M p∧At Y29 b3 c.vs 24):=⟨HT.out.later HB.out,(HS.out.2).later b5 (HS.out.2).lt⟩
     rw [hc] at HA13 HL13 ⊢
     clear a5 b5 s5 hc
     refine ⟨HS.out,?_⟩
     (try simp [Act.put])
     exact HJ.out Y29 c13 c14 ⟨HB.out,HS.out,HA13.out,HL13.out,HA14.out,HL14.out,HN1413.out.symm⟩
    ·obtain ⟨Y30,hY,a5,b5,s5⟩:=Go.Proofs.YtpkhdihoijkamaaGreatDoor.D.one Y26 (.cells G.z78.toArray 51)
     refine wpS ?_
     go_wp2_with fail
     rw [←hY]
     clear hY
     have HA13:Hid (G.At Y30 Y26.heap.size G.z78 51):=a5
     have HL13:Hid (w.heap.size≤Y26.heap.size):=HB.out.size
     obtain ⟨c13,hc⟩:∃ c13,Y26.heap.size=c13:=⟨_,rfl⟩
     replace HB:Hid (Below w.heap.size w Y30):=bu HB.out b5
     have HN1413:Hid (c14≠c13):=by show _≠_;rw [←hc];have:=HA14.out.lt;omega
     replace HA14:Hid (At Y30 c14 z3 44):=HA14.out.later b5 HA14.out.lt
     replace HS:Hid (aa w0 Y30 t M p∧At Y30 b3 c.vs 24):=⟨HT.out.later HB.out,(HS.out.2).later b5 (HS.out.2).lt⟩
     rw [hc] at HA13 HL13 ⊢
     clear a5 b5 s5 hc
     refine ⟨HS.out,?_⟩
     (try simp [Act.put])
     refine wpA 8 (wpS ?_)
     go_wp2_with fail
     refine (HF.out _).mono ?_
     rintro r Y31 ⟨rfl,b1⟩
     replace HB:Hid (Below w.heap.size w Y31):=bu HB.out b1
     replace HA14:Hid (At Y31 c14 z3 44):=HA14.out.later b1 HA14.out.lt
     replace HA13:Hid (G.At Y31 c13 G.z78 51):=HA13.out.later b1 HA13.out.lt
     replace HS:Hid (aa w0 Y31 t M p∧At Y31 b3 c.vs 24):=⟨HT.out.later HB.out,(HS.out.2).later b1 (HS.out.2).lt⟩
     clear b1
     refine ⟨HS.out,?_⟩
     (try simp [Act.put])
     refine wpG 9 (.tuple #[.agg (G.grV rs2 M.up).toArray,.agg #[.int .i64 ce.e,.int .i64 ce.n,.string ce.d],.bool okb]) HS.out ?_
     (try simp [Act.put])
     refine wpG 10 (.agg (G.grV rs2 M.up).toArray) HS.out ?_
     refine wpG 11 (.agg #[.int .i64 ce.e,.int .i64 ce.n,.string ce.d]) HS.out ?_
     refine wpG 12 (.bool okb) HS.out ?_
     (try simp [Act.put])
     exact HJ.out Y31 c13 c14 ⟨HB.out,HS.out,HA13.out,HL13.out,HA14.out,HL14.out,HN1413.out.symm⟩
   ·obtain ⟨Y32,hY,a5,b5,s5⟩:=Go.Proofs.YtpkhdihoijkamaaGreatDoor.D.one Y26 (.cells G.z78.toArray 51)
    refine wpS ?_
    go_wp2_with fail
    rw [←hY]
    clear hY
    have HA13:Hid (G.At Y32 Y26.heap.size G.z78 51):=a5
    have HL13:Hid (w.heap.size≤Y26.heap.size):=HB.out.size
    obtain ⟨c13,hc⟩:∃ c13,Y26.heap.size=c13:=⟨_,rfl⟩
    replace HB:Hid (Below w.heap.size w Y32):=bu HB.out b5
    have HN1413:Hid (c14≠c13):=by show _≠_;rw [←hc];have:=HA14.out.lt;omega
    replace HA14:Hid (At Y32 c14 z3 44):=HA14.out.later b5 HA14.out.lt
    replace HS:Hid (aa w0 Y32 t M p∧At Y32 b3 c.vs 24):=⟨HT.out.later HB.out,(HS.out.2).later b5 (HS.out.2).lt⟩
    rw [hc] at HA13 HL13 ⊢
    clear a5 b5 s5 hc
    refine ⟨HS.out,?_⟩
    (try simp [Act.put])
    refine wpA 5 (wpS ?_)
    go_wp2_with fail
    refine (aa.ep HS.out.1).mono ?_
    rintro r Y33 ⟨rfl,hW⟩
    obtain rfl:=hW.symm
    refine ⟨HS.out,?_⟩
    (try simp [Act.put])
    refine wpA 8 (wpS ?_)
    go_wp2_with fail
    refine (HF.out _).mono ?_
    rintro r Y34 ⟨rfl,b1⟩
    replace HB:Hid (Below w.heap.size w Y34):=bu HB.out b1
    replace HA14:Hid (At Y34 c14 z3 44):=HA14.out.later b1 HA14.out.lt
    replace HA13:Hid (G.At Y34 c13 G.z78 51):=HA13.out.later b1 HA13.out.lt
    replace HS:Hid (aa w0 Y34 t M p∧At Y34 b3 c.vs 24):=⟨HT.out.later HB.out,(HS.out.2).later b1 (HS.out.2).lt⟩
    clear b1
    refine ⟨HS.out,?_⟩
    (try simp [Act.put])
    refine wpG 9 (.tuple #[.agg (G.grV rs2 M.up).toArray,.agg #[.int .i64 ce.e,.int .i64 ce.n,.string ce.d],.bool okb]) HS.out ?_
    (try simp [Act.put])
    refine wpG 10 (.agg (G.grV rs2 M.up).toArray) HS.out ?_
    refine wpG 11 (.agg #[.int .i64 ce.e,.int .i64 ce.n,.string ce.d]) HS.out ?_
    refine wpG 12 (.bool okb) HS.out ?_
    (try simp [Act.put])
    exact HJ.out Y34 c13 c14 ⟨HB.out,HS.out,HA13.out,HL13.out,HA14.out,HL14.out,HN1413.out.symm⟩
 case rest =>
  clear HB HS
  intro Y c13 c14 ⟨hb,hs,a13,l13,a14,l14,n1314⟩
  have HB:Hid (Below w.heap.size w Y):=hb
  have HS:Hid (aa w0 Y t M p∧At Y b3 c.vs 24):=hs
  have HA13:Hid (G.At Y c13 G.z78 51):=a13
  have HL13:Hid (w.heap.size≤c13):=l13
  have HA14:Hid (At Y c14 z3 44):=a14
  have HL14:Hid (w.heap.size≤c14):=l14
  have HN1314:Hid (c13≠c14):=n1314
  clear hb hs a13 l13 a14 l14 n1314
  refine wpA 15 ?_
  have hst:=G.uf HA13.out rfl HG.out.vlen (G.tu rs2 M.up)
  have A6:=G.At.set (G.grV rs2 M.up) 0 _ _ HA13.out
  rw [G.ik _ _ (by rw [HG.out.vlen];rfl)] at A6
  have hne:c14≠c13:=HN1314.out.symm
  have A7:At (Y.setCells c13 0 (G.grV rs2 M.up)) c14 z3 44:=At.set_ne hne _ _ _ HA14.out
  have HB2:Hid (Below w.heap.size w (Y.setCells c13 0 (G.grV rs2 M.up))):=below_setCells HL13.out (G.grV rs2 M.up) 0 _ HB.out
  generalize Y.setCells c13 0 (G.grV rs2 M.up)=Z at *
  have HS2:Hid (aa w0 Z t M p∧At Z b3 c.vs 24):=⟨HT.out.later HB2.out,HX3.out.later HB2.out HX3.out.lt⟩
  refine Go.Proofs.YtpkhdihoijkamaaGreatDoor.D.ma hst rfl rfl rfl rfl ⟨HS2.out,?_⟩
  clear hst HA13 HA14 HB HS
  refine wpA 16 ?_
  have hst:=store_ce A7 rfl ce
  have A8:=At.set ce.vs 0 _ _ A7
  rw [ik ce.vs z3 rfl] at A8
  have A9:G.At (Z.setCells c14 0 ce.vs) c13 (G.grV rs2 M.up) 51:=G.At.set_ne hne.symm _ _ _ A6
  have HB3:Hid (Below w.heap.size w (Z.setCells c14 0 ce.vs)):=below_setCells HL14.out ce.vs 0 _ HB2.out
  generalize Z.setCells c14 0 ce.vs=Z2 at *
  have HS3:Hid (aa w0 Z2 t M p∧At Z2 b3 c.vs 24):=⟨HT.out.later HB3.out,HX3.out.later HB3.out HX3.out.lt⟩
  refine Go.Proofs.YtpkhdihoijkamaaGreatDoor.D.ma hst rfl rfl rfl rfl ⟨HS3.out,?_⟩
  clear hst HS2 HB2 A6 A7 Z
  refine wpG 17 (.bool okb) HS3.out ?_
  (try simp [Act.put])
  refine wpZ ?_
  (try simp [Act.put])
  have HLD:Hid ((Instr.loadAt 51 (.pointer (some ⟨c13,0,.none⟩))).run Tryz.prog Z2=.ok (.agg (G.grV rs2 M.up).toArray) Z2):=G.gz A9 HG.out.vlen
  by_cases hr:okb=true
  ·rw [hr] at HX ⊢
   obtain ⟨V2,hV,tV,mV,mT⟩:=HS3.out.1.putG HG.out
   have HV:Hid ((Instr.storeAt 51 (.pointer (some ⟨t,1,.none⟩)) (.agg (G.grV rs2 M.up).toArray)).run Tryz.prog Z2=.ok () V2):=hV
   have HTV:Hid (aa w0 V2 t { M with rs:=rs2 } p):=tV
   have HMV:Hid (ae p.F p.F wa V2):=(HMa.out.trans (ae.of HB3.out (Nat.le_refl _))).trans mV
   have htc:c14≠t:=fun e=>by have h1:=HT.out.hd.lt;have h2:=HL14.out;omega
   have c142:V2.cell? ⟨c14,2,.none⟩=some (.string ce.d):=mT.cell (A8.cell 2) (fun e=>htc e)
   clear hr hV tV mV mT htc A8 A9
   go_wp2_with (first|with_reducible refine ak HLD.out rfl rfl ?_|with_reducible refine cu HV.out rfl rfl ?_)
   go_ret2
   exact ⟨by rw [HX.out];rfl,by rw [HX.out];exact HTV.out,HMV.out⟩
  ·have hr':okb=false:=by simpa using hr
   rw [hr'] at HX ⊢
   have HMV:Hid (ae p.F p.F wa Z2):=HMa.out.trans (ae.of HB3.out (Nat.le_refl _))
   clear hr hr' A8 A9
   go_wp2
   go_ret2
   exact ⟨by rw [HX.out];rfl,by rw [HX.out];exact HS3.out.1,HMV.out⟩
end Go.Proofs.YtpkhdihoijkamaaGreatDoor.U
