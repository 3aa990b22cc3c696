/- Several texts of this seat in one: UCompare. No statement of the seat is proved here. -/
import Derived.Test.YtpkhdihoijkamaaGreatDoorWT
import Derived.Test.YtpkhdihoijkamaaGreatDoorZA32
import Derived.Test.YtpkhdihoijkamaaGreatDoorZA33
import Derived.Test.YtpkhdihoijkamaaGreatDoorZA34
import Derived.Lib.SlicesS
namespace Go.Proofs.YtpkhdihoijkamaaGreatDoor.U
open Go.ChangeShapes Go.WideShapes Go.ChangeAt Go.RowKit Go.Deep Go.Maps
open Go.Proofs.YtpkhdihoijkamaaGreatDoor.D
attribute [local go_sem] zc78
set_option maxRecDepth 100000 in
set_option maxHeartbeats 16000000 in
theorem compare_any {w0 wa:World} {t:Nat} {Ma:TM} {p:TP} (h:aa w0 wa t Ma p) {N:Nat} (hI:TI Ma N) (hN:N<1000000) (c:CmD) (k:Nat) (hk:c.at'=k) (hk8:k<8) :
 Calls Tryz.prog 71 #[.pointer (some ⟨t,0,.none⟩),.agg c.vs.toArray] wa fun r w'=>r=.returned (.tuple #[.int .i64 (jg Ma c).1,ai (jg Ma c).2.1])∧∃ p',aa w0 w' t (jg Ma c).2.2 p'∧p'.k=p.k∧p'.b=p.b∧ae p.F p'.F wa w':=by
 obtain ⟨X,hX,a0,bX,sX⟩:=Go.Proofs.YtpkhdihoijkamaaGreatDoor.D.one wa (.cells c.vs.toArray 24)
 have A3:At X wa.heap.size c.vs 24:=a0
 have HTa:Hid (aa w0 X t Ma p):=h.later bX
 have HMa:Hid (ae p.F p.F wa X):=ae.of bX (Nat.le_refl _)
 have hoff:¬p.F wa.heap.size:=fun f=>by have:=h.foot _ f;omega
 have HLC:Hid ((Instr.loadAt 24 (.pointer (some ⟨wa.heap.size,0,.none⟩))).run Tryz.prog X=.ok (.agg c.vs.toArray) X):=vv A3
 have HK:Hid (c.at'=k∧k<8):=⟨hk,hk8⟩
 have HIa:Hid (TI (ic Ma c) N∧N<1000000):=⟨hI.allow c,hN⟩
 clear a0 bX sX h hk hk8 hI hN
 go_enter Tryz.func71,Tryz.ntmps71
 go_upto_region 1 with fail
 rw [←hX]
 clear hX
 obtain ⟨b3,hb3⟩:∃ b3,wa.heap.size=b3:=⟨_,rfl⟩
 rw [hb3] at A3 hoff HLC ⊢
 clear hb3
 go_wp2_with (with_reducible refine ak HLC.out rfl rfl ?_)
 refine (allow_any HTa.out c).mono ?_
 rintro r w ⟨rfl,t1,m1⟩
 have HX3:Hid (At w b3 c.vs 24):=m1.at A3 hoff
 replace HMa:Hid (ae p.F p.F wa w):=HMa.out.trans m1
 by_cases hal:ji Ma c=0
 case neg =>
  have HX:Hid (jg Ma c=(0,ji Ma c,ic Ma c)):=by show _=_;unfold jg;rw [if_neg hal]
  have HE:Hid (ai (ji Ma c)=.iface 96 (.int .i64 (ji Ma c))):=ut hal
  have HT9:Hid (aa w0 w t (ic Ma c) p):=t1
  rw [HE.out]
  clear hal t1 m1 A3 hoff HLC HTa
  go_wp2
  go_ret2
  exact ⟨by rw [HX.out,HE.out];rfl,p,by rw [HX.out];exact HT9.out,rfl,rfl,HMa.out⟩
 obtain ⟨M,hM⟩:∃ M,ic Ma c=M:=⟨_,rfl⟩
 have HX:Hid (jg Ma c=if gotB M=true∧fliesTo M k=false then (if (gotC M k).d=c.wa then (if fullB M=true then (0,6,M) else ((M.dn.length:Int)+1,0,{ rq M c with rs:=(gotM M k).rs })) else (0,9,M)) else (0,7,M)):=by
  show _=_
  unfold jg zt
  rw [if_pos hal,hM,HK.out.1]
  rfl
 rw [hM] at HIa
 rw [hM] at t1
 rw [hal,show ai 0=.nilIface from rfl]
 have HT:Hid (aa w0 w t M p):=t1
 clear hal t1 m1 A3 hoff HLC HTa hM X
 have HF:Hid (∀ W,Calls Tryz.prog 103 #[.agg (G.grV M.rs M.up).toArray,.int .i64 M.e,.int .i64 c.at'] W fun r w'=>r=.returned (.tuple #[.agg (G.grV (gotM M k).rs M.up).toArray,.agg #[.int .i64 (gotC M k).e,.int .i64 (gotC M k).n,.string (gotC M k).d],.bool (gotB M)])∧Below W.heap.size W w') :=
  fun W=>by rw [HK.out.1];exact G.gread_any M.rs M.up M.e k W HT.out.ok HK.out.2
 have HG:Hid (G.GOK (gotM M k).rs M.up):=G.readG_ok HT.out.ok _ _
 obtain ⟨rs2,hrs⟩:∃ rs2,(gotM M k).rs=rs2:=⟨_,rfl⟩
 have HRS:Hid (gotM M k={ M with rs:=rs2 }):=by show _=_;rw [←hrs];rfl
 obtain ⟨ce,hce⟩:∃ ce,gotC M k=ce:=⟨_,rfl⟩
 obtain ⟨okb,hokb⟩:∃ okb,gotB M=okb:=⟨_,rfl⟩
 rw [hrs,hokb,hce] at HF
 rw [hrs,hokb,hce] at HX
 rw [hrs] at HG
 have HFT:Hid (∀ W,aa w0 W t M p→Calls Tryz.prog 105 #[.pointer (some ⟨t,0,.none⟩),.int .i64 c.at'] W fun r w'=>r=.returned (.bool (fliesTo M k))∧Below W.heap.size W w'):=fun W hW=>by rw [HK.out.1];exact fliesTo_any hW k (by have:=HIa.out.1.fn;omega)
 obtain ⟨ftb,hftb⟩:∃ ftb,fliesTo M k=ftb:=⟨_,rfl⟩
 rw [hftb] at HX HFT
 clear hrs hokb hce HRS hftb
 go_upto_region 4 with fail
 refine ql (S:=fun w'=>aa w0 w' t M p∧At w' b3 c.vs 24) (by kernel_rfl) ?_
 intro V hV bV sV
 have HB:Hid (Below w.heap.size w V):=bV
 have HS:Hid (aa w0 V t M p∧At V b3 c.vs 24):=⟨HT.out.later HB.out,HX3.out.later HB.out HX3.out.lt⟩
 clear hV bV sV
 refine' joinW2 (F:=fun Y c13 c14=>Below w.heap.size w Y∧(aa w0 Y t M p∧At Y b3 c.vs 24)∧G.At Y c13 G.z78 51∧w.heap.size≤c13∧At Y c14 z3 44∧w.heap.size≤c14∧c13≠c14) (h1:=?main) (h2:=?rest)
 case main =>
  intro HJ
  refine wpG 0 (.pointer (some ⟨t,0,.none⟩)) HS.out ?_
  refine wpG 4 (.pointer (some ⟨t,0,.none⟩)) HS.out ?_
  refine wpG 6 (.pointer (some ⟨b3,5,.none⟩)) HS.out ?_
  (try simp [Act.put])
  refine wpG 1 (.pointer (some ⟨t,0,.none⟩)) HS.out ?_
  refine wpT 7 (.int .i64 c.at') (.inl ⟨rfl,fun w' hw'=>?_⟩) HS.out ?_
  ·have hc:w'.cell? ⟨b3,5,.none⟩=some (.int .i64 c.at'):=hw'.2.cell 5;go_simp
  (try simp [Act.put])
  refine wpG 2 (.pointer (some ⟨t,1,.none⟩)) HS.out ?_
  (try simp [Act.put])
  refine wpT 3 (.agg (G.grV M.rs M.up).toArray) (.inl ⟨rfl,fun w' hw'=>?_⟩) HS.out ?_
  ·exact jc hw'.1.loadG rfl
  (try simp [Act.put])
  refine wpC 5 13 14 ?_ ?_ ?_
  ·refine wpS ?_
   go_wp2_with fail
   refine (aa.ep HS.out.1).mono ?_
   rintro r Y1 ⟨rfl,hW⟩
   obtain rfl:=hW.symm
   refine ⟨HS.out,?_⟩
   (try simp [Act.put])
   refine wpC 8 13 14 ?_ ?_ ?_
   ·refine wpS ?_
    go_wp2_with fail
    refine (HF.out _).mono ?_
    rintro r Y2 ⟨rfl,b1⟩
    replace HB:Hid (Below w.heap.size w Y2):=bu HB.out b1
    replace HS:Hid (aa w0 Y2 t M p∧At Y2 b3 c.vs 24):=⟨HT.out.later HB.out,(HS.out.2).later b1 (HS.out.2).lt⟩
    clear b1
    refine ⟨HS.out,?_⟩
    (try simp [Act.put])
    refine wpG 9 (.tuple #[.agg (G.grV rs2 M.up).toArray,.agg #[.int .i64 ce.e,.int .i64 ce.n,.string ce.d],.bool okb]) HS.out ?_
    (try simp [Act.put])
    refine wpG 10 (.agg (G.grV rs2 M.up).toArray) HS.out ?_
    refine wpG 11 (.agg #[.int .i64 ce.e,.int .i64 ce.n,.string ce.d]) HS.out ?_
    refine wpG 12 (.bool okb) HS.out ?_
    (try simp [Act.put])
    refine wpB 13 14 ?_ ?_
    ·obtain ⟨Y3,hY,a5,b5,s5⟩:=Go.Proofs.YtpkhdihoijkamaaGreatDoor.D.one Y2 (.cells G.z78.toArray 51)
     refine wpS ?_
     go_wp2_with fail
     rw [←hY]
     clear hY
     have HA13:Hid (G.At Y3 Y2.heap.size G.z78 51):=a5
     have HL13:Hid (w.heap.size≤Y2.heap.size):=HB.out.size
     obtain ⟨c13,hc⟩:∃ c13,Y2.heap.size=c13:=⟨_,rfl⟩
     replace HB:Hid (Below w.heap.size w Y3):=bu HB.out b5
     replace HS:Hid (aa w0 Y3 t M p∧At Y3 b3 c.vs 24):=⟨HT.out.later HB.out,(HS.out.2).later b5 (HS.out.2).lt⟩
     rw [hc] at HA13 HL13 ⊢
     clear a5 b5 s5 hc
     refine ⟨HS.out,?_⟩
     (try simp [Act.put])
     refine wpA 14 ?_
     obtain ⟨Y4,hY,a5,b5,s5⟩:=Go.Proofs.YtpkhdihoijkamaaGreatDoor.D.one Y3 (.cells #[.int .i64 0,.int .i64 0,.string ⟨#[]⟩] 44)
     refine wpS ?_
     go_wp2_with fail
     rw [←hY]
     clear hY
     have HA14:Hid (At Y4 Y3.heap.size z3 44):=a5
     have HL14:Hid (w.heap.size≤Y3.heap.size):=HB.out.size
     obtain ⟨c14,hc⟩:∃ c14,Y3.heap.size=c14:=⟨_,rfl⟩
     replace HB:Hid (Below w.heap.size w Y4):=bu HB.out b5
     have HN1314:Hid (c13≠c14):=by show _≠_;rw [←hc];have:=HA13.out.lt;omega
     replace HA13:Hid (G.At Y4 c13 G.z78 51):=HA13.out.later b5 HA13.out.lt
     replace HS:Hid (aa w0 Y4 t M p∧At Y4 b3 c.vs 24):=⟨HT.out.later HB.out,(HS.out.2).later b5 (HS.out.2).lt⟩
     rw [hc] at HA14 HL14 ⊢
     clear a5 b5 s5 hc
     refine ⟨HS.out,?_⟩
     (try simp [Act.put])
     exact HJ.out Y4 c13 c14 ⟨HB.out,HS.out,HA13.out,HL13.out,HA14.out,HL14.out,HN1314.out⟩
    ·obtain ⟨Y5,hY,a5,b5,s5⟩:=Go.Proofs.YtpkhdihoijkamaaGreatDoor.D.one Y2 (.cells #[.int .i64 0,.int .i64 0,.string ⟨#[]⟩] 44)
     refine wpS ?_
     go_wp2_with fail
     rw [←hY]
     clear hY
     have HA14:Hid (At Y5 Y2.heap.size z3 44):=a5
     have HL14:Hid (w.heap.size≤Y2.heap.size):=HB.out.size
     obtain ⟨c14,hc⟩:∃ c14,Y2.heap.size=c14:=⟨_,rfl⟩
     replace HB:Hid (Below w.heap.size w Y5):=bu HB.out b5
     replace HS:Hid (aa w0 Y5 t M p∧At Y5 b3 c.vs 24):=⟨HT.out.later HB.out,(HS.out.2).later b5 (HS.out.2).lt⟩
     rw [hc] at HA14 HL14 ⊢
     clear a5 b5 s5 hc
     refine ⟨HS.out,?_⟩
     (try simp [Act.put])
     refine wpA 13 ?_
     obtain ⟨Y6,hY,a5,b5,s5⟩:=Go.Proofs.YtpkhdihoijkamaaGreatDoor.D.one Y5 (.cells G.z78.toArray 51)
     refine wpS ?_
     go_wp2_with fail
     rw [←hY]
     clear hY
     have HA13:Hid (G.At Y6 Y5.heap.size G.z78 51):=a5
     have HL13:Hid (w.heap.size≤Y5.heap.size):=HB.out.size
     obtain ⟨c13,hc⟩:∃ c13,Y5.heap.size=c13:=⟨_,rfl⟩
     replace HB:Hid (Below w.heap.size w Y6):=bu HB.out b5
     have HN1413:Hid (c14≠c13):=by show _≠_;rw [←hc];have:=HA14.out.lt;omega
     replace HA14:Hid (At Y6 c14 z3 44):=HA14.out.later b5 HA14.out.lt
     replace HS:Hid (aa w0 Y6 t M p∧At Y6 b3 c.vs 24):=⟨HT.out.later HB.out,(HS.out.2).later b5 (HS.out.2).lt⟩
     rw [hc] at HA13 HL13 ⊢
     clear a5 b5 s5 hc
     refine ⟨HS.out,?_⟩
     (try simp [Act.put])
     exact HJ.out Y6 c13 c14 ⟨HB.out,HS.out,HA13.out,HL13.out,HA14.out,HL14.out,HN1413.out.symm⟩
   ·obtain ⟨Y7,hY,a5,b5,s5⟩:=Go.Proofs.YtpkhdihoijkamaaGreatDoor.D.one V (.cells G.z78.toArray 51)
    refine wpS ?_
    go_wp2_with fail
    rw [←hY]
    clear hY
    have HA13:Hid (G.At Y7 V.heap.size G.z78 51):=a5
    have HL13:Hid (w.heap.size≤V.heap.size):=HB.out.size
    obtain ⟨c13,hc⟩:∃ c13,V.heap.size=c13:=⟨_,rfl⟩
    replace HB:Hid (Below w.heap.size w Y7):=bu HB.out b5
    replace HS:Hid (aa w0 Y7 t M p∧At Y7 b3 c.vs 24):=⟨HT.out.later HB.out,(HS.out.2).later b5 (HS.out.2).lt⟩
    rw [hc] at HA13 HL13 ⊢
    clear a5 b5 s5 hc
    refine ⟨HS.out,?_⟩
    (try simp [Act.put])
    refine wpB 8 14 ?_ ?_
    ·refine wpS ?_
     go_wp2_with fail
     refine (HF.out _).mono ?_
     rintro r Y8 ⟨rfl,b1⟩
     replace HB:Hid (Below w.heap.size w Y8):=bu HB.out b1
     replace HA13:Hid (G.At Y8 c13 G.z78 51):=HA13.out.later b1 HA13.out.lt
     replace HS:Hid (aa w0 Y8 t M p∧At Y8 b3 c.vs 24):=⟨HT.out.later HB.out,(HS.out.2).later b1 (HS.out.2).lt⟩
     clear b1
     refine ⟨HS.out,?_⟩
     (try simp [Act.put])
     refine wpG 9 (.tuple #[.agg (G.grV rs2 M.up).toArray,.agg #[.int .i64 ce.e,.int .i64 ce.n,.string ce.d],.bool okb]) HS.out ?_
     (try simp [Act.put])
     refine wpG 10 (.agg (G.grV rs2 M.up).toArray) HS.out ?_
     refine wpG 11 (.agg #[.int .i64 ce.e,.int .i64 ce.n,.string ce.d]) HS.out ?_
     refine wpG 12 (.bool okb) HS.out ?_
     (try simp [Act.put])
     refine wpA 14 ?_
     obtain ⟨Y9,hY,a5,b5,s5⟩:=Go.Proofs.YtpkhdihoijkamaaGreatDoor.D.one Y8 (.cells #[.int .i64 0,.int .i64 0,.string ⟨#[]⟩] 44)
     refine wpS ?_
     go_wp2_with fail
     rw [←hY]
     clear hY
     have HA14:Hid (At Y9 Y8.heap.size z3 44):=a5
     have HL14:Hid (w.heap.size≤Y8.heap.size):=HB.out.size
     obtain ⟨c14,hc⟩:∃ c14,Y8.heap.size=c14:=⟨_,rfl⟩
     replace HB:Hid (Below w.heap.size w Y9):=bu HB.out b5
     have HN1314:Hid (c13≠c14):=by show _≠_;rw [←hc];have:=HA13.out.lt;omega
     replace HA13:Hid (G.At Y9 c13 G.z78 51):=HA13.out.later b5 HA13.out.lt
     replace HS:Hid (aa w0 Y9 t M p∧At Y9 b3 c.vs 24):=⟨HT.out.later HB.out,(HS.out.2).later b5 (HS.out.2).lt⟩
     rw [hc] at HA14 HL14 ⊢
     clear a5 b5 s5 hc
     refine ⟨HS.out,?_⟩
     (try simp [Act.put])
     exact HJ.out Y9 c13 c14 ⟨HB.out,HS.out,HA13.out,HL13.out,HA14.out,HL14.out,HN1314.out⟩
    ·obtain ⟨Y10,hY,a5,b5,s5⟩:=Go.Proofs.YtpkhdihoijkamaaGreatDoor.D.one Y7 (.cells #[.int .i64 0,.int .i64 0,.string ⟨#[]⟩] 44)
     refine wpS ?_
     go_wp2_with fail
     rw [←hY]
     clear hY
     have HA14:Hid (At Y10 Y7.heap.size z3 44):=a5
     have HL14:Hid (w.heap.size≤Y7.heap.size):=HB.out.size
     obtain ⟨c14,hc⟩:∃ c14,Y7.heap.size=c14:=⟨_,rfl⟩
     replace HB:Hid (Below w.heap.size w Y10):=bu HB.out b5
     have HN1314:Hid (c13≠c14):=by show _≠_;rw [←hc];have:=HA13.out.lt;omega
     replace HA13:Hid (G.At Y10 c13 G.z78 51):=HA13.out.later b5 HA13.out.lt
     replace HS:Hid (aa w0 Y10 t M p∧At Y10 b3 c.vs 24):=⟨HT.out.later HB.out,(HS.out.2).later b5 (HS.out.2).lt⟩
     rw [hc] at HA14 HL14 ⊢
     clear a5 b5 s5 hc
     refine ⟨HS.out,?_⟩
     (try simp [Act.put])
     refine wpA 8 (wpS ?_)
     go_wp2_with fail
     refine (HF.out _).mono ?_
     rintro r Y11 ⟨rfl,b1⟩
     replace HB:Hid (Below w.heap.size w Y11):=bu HB.out b1
     replace HA13:Hid (G.At Y11 c13 G.z78 51):=HA13.out.later b1 HA13.out.lt
     replace HA14:Hid (At Y11 c14 z3 44):=HA14.out.later b1 HA14.out.lt
     replace HS:Hid (aa w0 Y11 t M p∧At Y11 b3 c.vs 24):=⟨HT.out.later HB.out,(HS.out.2).later b1 (HS.out.2).lt⟩
     clear b1
     refine ⟨HS.out,?_⟩
     (try simp [Act.put])
     refine wpG 9 (.tuple #[.agg (G.grV rs2 M.up).toArray,.agg #[.int .i64 ce.e,.int .i64 ce.n,.string ce.d],.bool okb]) HS.out ?_
     (try simp [Act.put])
     refine wpG 10 (.agg (G.grV rs2 M.up).toArray) HS.out ?_
     refine wpG 11 (.agg #[.int .i64 ce.e,.int .i64 ce.n,.string ce.d]) HS.out ?_
     refine wpG 12 (.bool okb) HS.out ?_
     (try simp [Act.put])
     exact HJ.out Y11 c13 c14 ⟨HB.out,HS.out,HA13.out,HL13.out,HA14.out,HL14.out,HN1314.out⟩
   ·obtain ⟨Y12,hY,a5,b5,s5⟩:=Go.Proofs.YtpkhdihoijkamaaGreatDoor.D.one V (.cells #[.int .i64 0,.int .i64 0,.string ⟨#[]⟩] 44)
    refine wpS ?_
    go_wp2_with fail
    rw [←hY]
    clear hY
    have HA14:Hid (At Y12 V.heap.size z3 44):=a5
    have HL14:Hid (w.heap.size≤V.heap.size):=HB.out.size
    obtain ⟨c14,hc⟩:∃ c14,V.heap.size=c14:=⟨_,rfl⟩
    replace HB:Hid (Below w.heap.size w Y12):=bu HB.out b5
    replace HS:Hid (aa w0 Y12 t M p∧At Y12 b3 c.vs 24):=⟨HT.out.later HB.out,(HS.out.2).later b5 (HS.out.2).lt⟩
    rw [hc] at HA14 HL14 ⊢
    clear a5 b5 s5 hc
    refine ⟨HS.out,?_⟩
    (try simp [Act.put])
    refine wpB 8 13 ?_ ?_
    ·refine wpS ?_
     go_wp2_with fail
     refine (HF.out _).mono ?_
     rintro r Y13 ⟨rfl,b1⟩
     replace HB:Hid (Below w.heap.size w Y13):=bu HB.out b1
     replace HA14:Hid (At Y13 c14 z3 44):=HA14.out.later b1 HA14.out.lt
     replace HS:Hid (aa w0 Y13 t M p∧At Y13 b3 c.vs 24):=⟨HT.out.later HB.out,(HS.out.2).later b1 (HS.out.2).lt⟩
     clear b1
     refine ⟨HS.out,?_⟩
     (try simp [Act.put])
     refine wpG 9 (.tuple #[.agg (G.grV rs2 M.up).toArray,.agg #[.int .i64 ce.e,.int .i64 ce.n,.string ce.d],.bool okb]) HS.out ?_
     (try simp [Act.put])
     refine wpG 10 (.agg (G.grV rs2 M.up).toArray) HS.out ?_
     refine wpG 11 (.agg #[.int .i64 ce.e,.int .i64 ce.n,.string ce.d]) HS.out ?_
     refine wpG 12 (.bool okb) HS.out ?_
     (try simp [Act.put])
     refine wpA 13 ?_
     obtain ⟨Y14,hY,a5,b5,s5⟩:=Go.Proofs.YtpkhdihoijkamaaGreatDoor.D.one Y13 (.cells G.z78.toArray 51)
     refine wpS ?_
     go_wp2_with fail
     rw [←hY]
     clear hY
     have HA13:Hid (G.At Y14 Y13.heap.size G.z78 51):=a5
     have HL13:Hid (w.heap.size≤Y13.heap.size):=HB.out.size
     obtain ⟨c13,hc⟩:∃ c13,Y13.heap.size=c13:=⟨_,rfl⟩
     replace HB:Hid (Below w.heap.size w Y14):=bu HB.out b5
     have HN1413:Hid (c14≠c13):=by show _≠_;rw [←hc];have:=HA14.out.lt;omega
     replace HA14:Hid (At Y14 c14 z3 44):=HA14.out.later b5 HA14.out.lt
     replace HS:Hid (aa w0 Y14 t M p∧At Y14 b3 c.vs 24):=⟨HT.out.later HB.out,(HS.out.2).later b5 (HS.out.2).lt⟩
     rw [hc] at HA13 HL13 ⊢
     clear a5 b5 s5 hc
     refine ⟨HS.out,?_⟩
     (try simp [Act.put])
     exact HJ.out Y14 c13 c14 ⟨HB.out,HS.out,HA13.out,HL13.out,HA14.out,HL14.out,HN1413.out.symm⟩
    ·obtain ⟨Y15,hY,a5,b5,s5⟩:=Go.Proofs.YtpkhdihoijkamaaGreatDoor.D.one Y12 (.cells G.z78.toArray 51)
     refine wpS ?_
     go_wp2_with fail
     rw [←hY]
     clear hY
     have HA13:Hid (G.At Y15 Y12.heap.size G.z78 51):=a5
     have HL13:Hid (w.heap.size≤Y12.heap.size):=HB.out.size
     obtain ⟨c13,hc⟩:∃ c13,Y12.heap.size=c13:=⟨_,rfl⟩
     replace HB:Hid (Below w.heap.size w Y15):=bu HB.out b5
     have HN1413:Hid (c14≠c13):=by show _≠_;rw [←hc];have:=HA14.out.lt;omega
     replace HA14:Hid (At Y15 c14 z3 44):=HA14.out.later b5 HA14.out.lt
     replace HS:Hid (aa w0 Y15 t M p∧At Y15 b3 c.vs 24):=⟨HT.out.later HB.out,(HS.out.2).later b5 (HS.out.2).lt⟩
     rw [hc] at HA13 HL13 ⊢
     clear a5 b5 s5 hc
     refine ⟨HS.out,?_⟩
     (try simp [Act.put])
     refine wpA 8 (wpS ?_)
     go_wp2_with fail
     refine (HF.out _).mono ?_
     rintro r Y16 ⟨rfl,b1⟩
     replace HB:Hid (Below w.heap.size w Y16):=bu HB.out b1
     replace HA14:Hid (At Y16 c14 z3 44):=HA14.out.later b1 HA14.out.lt
     replace HA13:Hid (G.At Y16 c13 G.z78 51):=HA13.out.later b1 HA13.out.lt
     replace HS:Hid (aa w0 Y16 t M p∧At Y16 b3 c.vs 24):=⟨HT.out.later HB.out,(HS.out.2).later b1 (HS.out.2).lt⟩
     clear b1
     refine ⟨HS.out,?_⟩
     (try simp [Act.put])
     refine wpG 9 (.tuple #[.agg (G.grV rs2 M.up).toArray,.agg #[.int .i64 ce.e,.int .i64 ce.n,.string ce.d],.bool okb]) HS.out ?_
     (try simp [Act.put])
     refine wpG 10 (.agg (G.grV rs2 M.up).toArray) HS.out ?_
     refine wpG 11 (.agg #[.int .i64 ce.e,.int .i64 ce.n,.string ce.d]) HS.out ?_
     refine wpG 12 (.bool okb) HS.out ?_
     (try simp [Act.put])
     exact HJ.out Y16 c13 c14 ⟨HB.out,HS.out,HA13.out,HL13.out,HA14.out,HL14.out,HN1413.out.symm⟩
  ·obtain ⟨Y17,hY,a5,b5,s5⟩:=Go.Proofs.YtpkhdihoijkamaaGreatDoor.D.one V (.cells G.z78.toArray 51)
   refine wpS ?_
   go_wp2_with fail
   rw [←hY]
   clear hY
   have HA13:Hid (G.At Y17 V.heap.size G.z78 51):=a5
   have HL13:Hid (w.heap.size≤V.heap.size):=HB.out.size
   obtain ⟨c13,hc⟩:∃ c13,V.heap.size=c13:=⟨_,rfl⟩
   replace HB:Hid (Below w.heap.size w Y17):=bu HB.out b5
   replace HS:Hid (aa w0 Y17 t M p∧At Y17 b3 c.vs 24):=⟨HT.out.later HB.out,(HS.out.2).later b5 (HS.out.2).lt⟩
   rw [hc] at HA13 HL13 ⊢
   clear a5 b5 s5 hc
   refine ⟨HS.out,?_⟩
   (try simp [Act.put])
   refine wpB 5 14 ?_ ?_
   ·refine wpS ?_
    go_wp2_with fail
    refine (aa.ep HS.out.1).mono ?_
    rintro r Y18 ⟨rfl,hW⟩
    obtain rfl:=hW.symm
    refine ⟨HS.out,?_⟩
    (try simp [Act.put])
    refine wpB 8 14 ?_ ?_
    ·refine wpS ?_
     go_wp2_with fail
     refine (HF.out _).mono ?_
     rintro r Y19 ⟨rfl,b1⟩
     replace HB:Hid (Below w.heap.size w Y19):=bu HB.out b1
     replace HA13:Hid (G.At Y19 c13 G.z78 51):=HA13.out.later b1 HA13.out.lt
     replace HS:Hid (aa w0 Y19 t M p∧At Y19 b3 c.vs 24):=⟨HT.out.later HB.out,(HS.out.2).later b1 (HS.out.2).lt⟩
     clear b1
     refine ⟨HS.out,?_⟩
     (try simp [Act.put])
     refine wpG 9 (.tuple #[.agg (G.grV rs2 M.up).toArray,.agg #[.int .i64 ce.e,.int .i64 ce.n,.string ce.d],.bool okb]) HS.out ?_
     (try simp [Act.put])
     refine wpG 10 (.agg (G.grV rs2 M.up).toArray) HS.out ?_
     refine wpG 11 (.agg #[.int .i64 ce.e,.int .i64 ce.n,.string ce.d]) HS.out ?_
     refine wpG 12 (.bool okb) HS.out ?_
     (try simp [Act.put])
     refine wpA 14 ?_
     obtain ⟨Y20,hY,a5,b5,s5⟩:=Go.Proofs.YtpkhdihoijkamaaGreatDoor.D.one Y19 (.cells #[.int .i64 0,.int .i64 0,.string ⟨#[]⟩] 44)
     refine wpS ?_
     go_wp2_with fail
     rw [←hY]
     clear hY
     have HA14:Hid (At Y20 Y19.heap.size z3 44):=a5
     have HL14:Hid (w.heap.size≤Y19.heap.size):=HB.out.size
     obtain ⟨c14,hc⟩:∃ c14,Y19.heap.size=c14:=⟨_,rfl⟩
     replace HB:Hid (Below w.heap.size w Y20):=bu HB.out b5
     have HN1314:Hid (c13≠c14):=by show _≠_;rw [←hc];have:=HA13.out.lt;omega
     replace HA13:Hid (G.At Y20 c13 G.z78 51):=HA13.out.later b5 HA13.out.lt
     replace HS:Hid (aa w0 Y20 t M p∧At Y20 b3 c.vs 24):=⟨HT.out.later HB.out,(HS.out.2).later b5 (HS.out.2).lt⟩
     rw [hc] at HA14 HL14 ⊢
     clear a5 b5 s5 hc
     refine ⟨HS.out,?_⟩
     (try simp [Act.put])
     exact HJ.out Y20 c13 c14 ⟨HB.out,HS.out,HA13.out,HL13.out,HA14.out,HL14.out,HN1314.out⟩
    ·obtain ⟨Y21,hY,a5,b5,s5⟩:=Go.Proofs.YtpkhdihoijkamaaGreatDoor.D.one Y17 (.cells #[.int .i64 0,.int .i64 0,.string ⟨#[]⟩] 44)
     refine wpS ?_
     go_wp2_with fail
     rw [←hY]
     clear hY
     have HA14:Hid (At Y21 Y17.heap.size z3 44):=a5
     have HL14:Hid (w.heap.size≤Y17.heap.size):=HB.out.size
     obtain ⟨c14,hc⟩:∃ c14,Y17.heap.size=c14:=⟨_,rfl⟩
     replace HB:Hid (Below w.heap.size w Y21):=bu HB.out b5
     have HN1314:Hid (c13≠c14):=by show _≠_;rw [←hc];have:=HA13.out.lt;omega
     replace HA13:Hid (G.At Y21 c13 G.z78 51):=HA13.out.later b5 HA13.out.lt
     replace HS:Hid (aa w0 Y21 t M p∧At Y21 b3 c.vs 24):=⟨HT.out.later HB.out,(HS.out.2).later b5 (HS.out.2).lt⟩
     rw [hc] at HA14 HL14 ⊢
     clear a5 b5 s5 hc
     refine ⟨HS.out,?_⟩
     (try simp [Act.put])
     refine wpA 8 (wpS ?_)
     go_wp2_with fail
     refine (HF.out _).mono ?_
     rintro r Y22 ⟨rfl,b1⟩
     replace HB:Hid (Below w.heap.size w Y22):=bu HB.out b1
     replace HA13:Hid (G.At Y22 c13 G.z78 51):=HA13.out.later b1 HA13.out.lt
     replace HA14:Hid (At Y22 c14 z3 44):=HA14.out.later b1 HA14.out.lt
     replace HS:Hid (aa w0 Y22 t M p∧At Y22 b3 c.vs 24):=⟨HT.out.later HB.out,(HS.out.2).later b1 (HS.out.2).lt⟩
     clear b1
     refine ⟨HS.out,?_⟩
     (try simp [Act.put])
     refine wpG 9 (.tuple #[.agg (G.grV rs2 M.up).toArray,.agg #[.int .i64 ce.e,.int .i64 ce.n,.string ce.d],.bool okb]) HS.out ?_
     (try simp [Act.put])
     refine wpG 10 (.agg (G.grV rs2 M.up).toArray) HS.out ?_
     refine wpG 11 (.agg #[.int .i64 ce.e,.int .i64 ce.n,.string ce.d]) HS.out ?_
     refine wpG 12 (.bool okb) HS.out ?_
     (try simp [Act.put])
     exact HJ.out Y22 c13 c14 ⟨HB.out,HS.out,HA13.out,HL13.out,HA14.out,HL14.out,HN1314.out⟩
   ·obtain ⟨Y23,hY,a5,b5,s5⟩:=Go.Proofs.YtpkhdihoijkamaaGreatDoor.D.one Y17 (.cells #[.int .i64 0,.int .i64 0,.string ⟨#[]⟩] 44)
    refine wpS ?_
    go_wp2_with fail
    rw [←hY]
    clear hY
    have HA14:Hid (At Y23 Y17.heap.size z3 44):=a5
    have HL14:Hid (w.heap.size≤Y17.heap.size):=HB.out.size
    obtain ⟨c14,hc⟩:∃ c14,Y17.heap.size=c14:=⟨_,rfl⟩
    replace HB:Hid (Below w.heap.size w Y23):=bu HB.out b5
    have HN1314:Hid (c13≠c14):=by show _≠_;rw [←hc];have:=HA13.out.lt;omega
    replace HA13:Hid (G.At Y23 c13 G.z78 51):=HA13.out.later b5 HA13.out.lt
    replace HS:Hid (aa w0 Y23 t M p∧At Y23 b3 c.vs 24):=⟨HT.out.later HB.out,(HS.out.2).later b5 (HS.out.2).lt⟩
    rw [hc] at HA14 HL14 ⊢
    clear a5 b5 s5 hc
    refine ⟨HS.out,?_⟩
    (try simp [Act.put])
    refine wpA 5 (wpS ?_)
    go_wp2_with fail
    refine (aa.ep HS.out.1).mono ?_
    rintro r Y24 ⟨rfl,hW⟩
    obtain rfl:=hW.symm
    refine ⟨HS.out,?_⟩
    (try simp [Act.put])
    refine wpA 8 (wpS ?_)
    go_wp2_with fail
    refine (HF.out _).mono ?_
    rintro r Y25 ⟨rfl,b1⟩
    replace HB:Hid (Below w.heap.size w Y25):=bu HB.out b1
    replace HA13:Hid (G.At Y25 c13 G.z78 51):=HA13.out.later b1 HA13.out.lt
    replace HA14:Hid (At Y25 c14 z3 44):=HA14.out.later b1 HA14.out.lt
    replace HS:Hid (aa w0 Y25 t M p∧At Y25 b3 c.vs 24):=⟨HT.out.later HB.out,(HS.out.2).later b1 (HS.out.2).lt⟩
    clear b1
    refine ⟨HS.out,?_⟩
    (try simp [Act.put])
    refine wpG 9 (.tuple #[.agg (G.grV rs2 M.up).toArray,.agg #[.int .i64 ce.e,.int .i64 ce.n,.string ce.d],.bool okb]) HS.out ?_
    (try simp [Act.put])
    refine wpG 10 (.agg (G.grV rs2 M.up).toArray) HS.out ?_
    refine wpG 11 (.agg #[.int .i64 ce.e,.int .i64 ce.n,.string ce.d]) HS.out ?_
    refine wpG 12 (.bool okb) HS.out ?_
    (try simp [Act.put])
    exact HJ.out Y25 c13 c14 ⟨HB.out,HS.out,HA13.out,HL13.out,HA14.out,HL14.out,HN1314.out⟩
  ·obtain ⟨Y26,hY,a5,b5,s5⟩:=Go.Proofs.YtpkhdihoijkamaaGreatDoor.D.one V (.cells #[.int .i64 0,.int .i64 0,.string ⟨#[]⟩] 44)
   refine wpS ?_
   go_wp2_with fail
   rw [←hY]
   clear hY
   have HA14:Hid (At Y26 V.heap.size z3 44):=a5
   have HL14:Hid (w.heap.size≤V.heap.size):=HB.out.size
   obtain ⟨c14,hc⟩:∃ c14,V.heap.size=c14:=⟨_,rfl⟩
   replace HB:Hid (Below w.heap.size w Y26):=bu HB.out b5
   replace HS:Hid (aa w0 Y26 t M p∧At Y26 b3 c.vs 24):=⟨HT.out.later HB.out,(HS.out.2).later b5 (HS.out.2).lt⟩
   rw [hc] at HA14 HL14 ⊢
   clear a5 b5 s5 hc
   refine ⟨HS.out,?_⟩
   (try simp [Act.put])
   refine wpB 5 13 ?_ ?_
   ·refine wpS ?_
    go_wp2_with fail
    refine (aa.ep HS.out.1).mono ?_
    rintro r Y27 ⟨rfl,hW⟩
    obtain rfl:=hW.symm
    refine ⟨HS.out,?_⟩
    (try simp [Act.put])
    refine wpB 8 13 ?_ ?_
    ·refine wpS ?_
     go_wp2_with fail
     refine (HF.out _).mono ?_
     rintro r Y28 ⟨rfl,b1⟩
     replace HB:Hid (Below w.heap.size w Y28):=bu HB.out b1
     replace HA14:Hid (At Y28 c14 z3 44):=HA14.out.later b1 HA14.out.lt
     replace HS:Hid (aa w0 Y28 t M p∧At Y28 b3 c.vs 24):=⟨HT.out.later HB.out,(HS.out.2).later b1 (HS.out.2).lt⟩
     clear b1
     refine ⟨HS.out,?_⟩
     (try simp [Act.put])
     refine wpG 9 (.tuple #[.agg (G.grV rs2 M.up).toArray,.agg #[.int .i64 ce.e,.int .i64 ce.n,.string ce.d],.bool okb]) HS.out ?_
     (try simp [Act.put])
     refine wpG 10 (.agg (G.grV rs2 M.up).toArray) HS.out ?_
     refine wpG 11 (.agg #[.int .i64 ce.e,.int .i64 ce.n,.string ce.d]) HS.out ?_
     refine wpG 12 (.bool okb) HS.out ?_
     (try simp [Act.put])
     refine wpA 13 ?_
     obtain ⟨Y29,hY,a5,b5,s5⟩:=Go.Proofs.YtpkhdihoijkamaaGreatDoor.D.one Y28 (.cells G.z78.toArray 51)
     refine wpS ?_
     go_wp2_with fail
     rw [←hY]
     clear hY
     have HA13:Hid (G.At Y29 Y28.heap.size G.z78 51):=a5
     have HL13:Hid (w.heap.size≤Y28.heap.size):=HB.out.size
     obtain ⟨c13,hc⟩:∃ c13,Y28.heap.size=c13:=⟨_,rfl⟩
     replace HB:Hid (Below w.heap.size w Y29):=bu HB.out b5
     have HN1413:Hid (c14≠c13):=by show _≠_;rw [←hc];have:=HA14.out.lt;omega
     replace HA14:Hid (At Y29 c14 z3 44):=HA14.out.later b5 HA14.out.lt
     replace HS:Hid (aa w0 Y29 t M p∧At Y29 b3 c.vs 24):=⟨HT.out.later HB.out,(HS.out.2).later b5 (HS.out.2).lt⟩
     rw [hc] at HA13 HL13 ⊢
     clear a5 b5 s5 hc
     refine ⟨HS.out,?_⟩
     (try simp [Act.put])
     exact HJ.out Y29 c13 c14 ⟨HB.out,HS.out,HA13.out,HL13.out,HA14.out,HL14.out,HN1413.out.symm⟩
    ·obtain ⟨Y30,hY,a5,b5,s5⟩:=Go.Proofs.YtpkhdihoijkamaaGreatDoor.D.one Y26 (.cells G.z78.toArray 51)
     refine wpS ?_
     go_wp2_with fail
     rw [←hY]
     clear hY
     have HA13:Hid (G.At Y30 Y26.heap.size G.z78 51):=a5
     have HL13:Hid (w.heap.size≤Y26.heap.size):=HB.out.size
     obtain ⟨c13,hc⟩:∃ c13,Y26.heap.size=c13:=⟨_,rfl⟩
     replace HB:Hid (Below w.heap.size w Y30):=bu HB.out b5
     have HN1413:Hid (c14≠c13):=by show _≠_;rw [←hc];have:=HA14.out.lt;omega
     replace HA14:Hid (At Y30 c14 z3 44):=HA14.out.later b5 HA14.out.lt
     replace HS:Hid (aa w0 Y30 t M p∧At Y30 b3 c.vs 24):=⟨HT.out.later HB.out,(HS.out.2).later b5 (HS.out.2).lt⟩
     rw [hc] at HA13 HL13 ⊢
     clear a5 b5 s5 hc
     refine ⟨HS.out,?_⟩
     (try simp [Act.put])
     refine wpA 8 (wpS ?_)
     go_wp2_with fail
     refine (HF.out _).mono ?_
     rintro r Y31 ⟨rfl,b1⟩
     replace HB:Hid (Below w.heap.size w Y31):=bu HB.out b1
     replace HA14:Hid (At Y31 c14 z3 44):=HA14.out.later b1 HA14.out.lt
     replace HA13:Hid (G.At Y31 c13 G.z78 51):=HA13.out.later b1 HA13.out.lt
     replace HS:Hid (aa w0 Y31 t M p∧At Y31 b3 c.vs 24):=⟨HT.out.later HB.out,(HS.out.2).later b1 (HS.out.2).lt⟩
     clear b1
     refine ⟨HS.out,?_⟩
     (try simp [Act.put])
     refine wpG 9 (.tuple #[.agg (G.grV rs2 M.up).toArray,.agg #[.int .i64 ce.e,.int .i64 ce.n,.string ce.d],.bool okb]) HS.out ?_
     (try simp [Act.put])
     refine wpG 10 (.agg (G.grV rs2 M.up).toArray) HS.out ?_
     refine wpG 11 (.agg #[.int .i64 ce.e,.int .i64 ce.n,.string ce.d]) HS.out ?_
     refine wpG 12 (.bool okb) HS.out ?_
     (try simp [Act.put])
     exact HJ.out Y31 c13 c14 ⟨HB.out,HS.out,HA13.out,HL13.out,HA14.out,HL14.out,HN1413.out.symm⟩
   ·obtain ⟨Y32,hY,a5,b5,s5⟩:=Go.Proofs.YtpkhdihoijkamaaGreatDoor.D.one Y26 (.cells G.z78.toArray 51)
    refine wpS ?_
    go_wp2_with fail
    rw [←hY]
    clear hY
    have HA13:Hid (G.At Y32 Y26.heap.size G.z78 51):=a5
    have HL13:Hid (w.heap.size≤Y26.heap.size):=HB.out.size
    obtain ⟨c13,hc⟩:∃ c13,Y26.heap.size=c13:=⟨_,rfl⟩
    replace HB:Hid (Below w.heap.size w Y32):=bu HB.out b5
    have HN1413:Hid (c14≠c13):=by show _≠_;rw [←hc];have:=HA14.out.lt;omega
    replace HA14:Hid (At Y32 c14 z3 44):=HA14.out.later b5 HA14.out.lt
    replace HS:Hid (aa w0 Y32 t M p∧At Y32 b3 c.vs 24):=⟨HT.out.later HB.out,(HS.out.2).later b5 (HS.out.2).lt⟩
    rw [hc] at HA13 HL13 ⊢
    clear a5 b5 s5 hc
    refine ⟨HS.out,?_⟩
    (try simp [Act.put])
    refine wpA 5 (wpS ?_)
    go_wp2_with fail
    refine (aa.ep HS.out.1).mono ?_
    rintro r Y33 ⟨rfl,hW⟩
    obtain rfl:=hW.symm
    refine ⟨HS.out,?_⟩
    (try simp [Act.put])
    refine wpA 8 (wpS ?_)
    go_wp2_with fail
    refine (HF.out _).mono ?_
    rintro r Y34 ⟨rfl,b1⟩
    replace HB:Hid (Below w.heap.size w Y34):=bu HB.out b1
    replace HA14:Hid (At Y34 c14 z3 44):=HA14.out.later b1 HA14.out.lt
    replace HA13:Hid (G.At Y34 c13 G.z78 51):=HA13.out.later b1 HA13.out.lt
    replace HS:Hid (aa w0 Y34 t M p∧At Y34 b3 c.vs 24):=⟨HT.out.later HB.out,(HS.out.2).later b1 (HS.out.2).lt⟩
    clear b1
    refine ⟨HS.out,?_⟩
    (try simp [Act.put])
    refine wpG 9 (.tuple #[.agg (G.grV rs2 M.up).toArray,.agg #[.int .i64 ce.e,.int .i64 ce.n,.string ce.d],.bool okb]) HS.out ?_
    (try simp [Act.put])
    refine wpG 10 (.agg (G.grV rs2 M.up).toArray) HS.out ?_
    refine wpG 11 (.agg #[.int .i64 ce.e,.int .i64 ce.n,.string ce.d]) HS.out ?_
    refine wpG 12 (.bool okb) HS.out ?_
    (try simp [Act.put])
    exact HJ.out Y34 c13 c14 ⟨HB.out,HS.out,HA13.out,HL13.out,HA14.out,HL14.out,HN1413.out.symm⟩
 case rest =>
  clear HB HS
  intro Y c13 c14 ⟨hb,hs,a13,l13,a14,l14,n1314⟩
  have HB:Hid (Below w.heap.size w Y):=hb
  have HS:Hid (aa w0 Y t M p∧At Y b3 c.vs 24):=hs
  have HA13:Hid (G.At Y c13 G.z78 51):=a13
  have HL13:Hid (w.heap.size≤c13):=l13
  have HA14:Hid (At Y c14 z3 44):=a14
  have HL14:Hid (w.heap.size≤c14):=l14
  have HN1314:Hid (c13≠c14):=n1314
  clear hb hs a13 l13 a14 l14 n1314
  refine wpA 15 ?_
  have hst:=G.uf HA13.out rfl HG.out.vlen (G.tu rs2 M.up)
  have A6:=G.At.set (G.grV rs2 M.up) 0 _ _ HA13.out
  rw [G.ik _ _ (by rw [HG.out.vlen];rfl)] at A6
  have hne:c14≠c13:=HN1314.out.symm
  have A7:At (Y.setCells c13 0 (G.grV rs2 M.up)) c14 z3 44:=At.set_ne hne _ _ _ HA14.out
  have HB2:Hid (Below w.heap.size w (Y.setCells c13 0 (G.grV rs2 M.up))):=below_setCells HL13.out (G.grV rs2 M.up) 0 _ HB.out
  generalize Y.setCells c13 0 (G.grV rs2 M.up)=Z at *
  have HS2:Hid (aa w0 Z t M p∧At Z b3 c.vs 24):=⟨HT.out.later HB2.out,HX3.out.later HB2.out HX3.out.lt⟩
  refine Go.Proofs.YtpkhdihoijkamaaGreatDoor.D.ma hst rfl rfl rfl rfl ⟨HS2.out,?_⟩
  clear hst HA13 HA14 HB HS
  refine wpA 16 ?_
  have hst:=store_ce A7 rfl ce
  have A8:=At.set ce.vs 0 _ _ A7
  rw [ik ce.vs z3 rfl] at A8
  have A9:G.At (Z.setCells c14 0 ce.vs) c13 (G.grV rs2 M.up) 51:=G.At.set_ne hne.symm _ _ _ A6
  have HB3:Hid (Below w.heap.size w (Z.setCells c14 0 ce.vs)):=below_setCells HL14.out ce.vs 0 _ HB2.out
  generalize Z.setCells c14 0 ce.vs=Z2 at *
  have HS3:Hid (aa w0 Z2 t M p∧At Z2 b3 c.vs 24):=⟨HT.out.later HB3.out,HX3.out.later HB3.out HX3.out.lt⟩
  refine Go.Proofs.YtpkhdihoijkamaaGreatDoor.D.ma hst rfl rfl rfl rfl ⟨HS3.out,?_⟩
  clear hst HS2 HB2 A6 A7 Z
  refine wpG 17 (.bool okb) HS3.out ?_
  (try simp [Act.put])
  refine wpZ ?_
  (try simp [Act.put])
  have HLD:Hid ((Instr.loadAt 51 (.pointer (some ⟨c13,0,.none⟩))).run Tryz.prog Z2=.ok (.agg (G.grV rs2 M.up).toArray) Z2):=G.gz A9 HG.out.vlen
  clear HLD
  have HAA:Hid (G.At Z2 c13 (G.grV rs2 M.up) 51∧¬p.F c13):=⟨A9,fun f=>by have:=HT.out.foot _ f;have:=HL13.out;omega⟩
  have HA8:Hid (At Z2 c14 ce.vs 44):=A8
  have HMV:Hid (ae p.F p.F wa Z2):=HMa.out.trans (ae.of HB3.out (Nat.le_refl _))
  clear A8 A9
  cases okb
  ·rw [if_neg (fun h=>by simp at h)] at HX
   go_wp2
   go_ret2
   exact ⟨by rw [HX.out];rfl,p,by rw [HX.out];exact HS3.out.1,rfl,rfl,HMV.out⟩
  have c5:Z2.cell? ⟨b3,5,.none⟩=some (.int .i64 c.at'):=HS3.out.2.cell 5
  go_wp2_with fail
  refine (HFT.out _ HS3.out.1).mono ?_
  rintro r Z3 ⟨rfl,b3'⟩
  have HS4:Hid (aa w0 Z3 t M p∧At Z3 b3 c.vs 24):=⟨HS3.out.1.later b3',HS3.out.2.later b3' HS3.out.2.lt⟩
  replace HMV:Hid (ae p.F p.F wa Z3):=HMV.out.trans (ae.of b3' (Nat.le_refl _))
  replace HAA:Hid (G.At Z3 c13 (G.grV rs2 M.up) 51∧¬p.F c13):=⟨HAA.out.1.later b3' HAA.out.1.lt,HAA.out.2⟩
  replace HA8:Hid (At Z3 c14 ce.vs 44):=HA8.out.later b3' HA8.out.lt
  clear b3' c5 HS3 HB3
  cases ftb
  case true =>
   rw [if_neg (fun h=>by simp at h)] at HX
   go_wp2
   go_ret2
   exact ⟨by rw [HX.out];rfl,p,by rw [HX.out];exact HS4.out.1,rfl,rfl,HMV.out⟩
  rw [if_pos (by simp)] at HX
  have c142:Z3.cell? ⟨c14,2,.none⟩=some (.string ce.d):=HA8.out.cell 2
  have c8:Z3.cell? ⟨b3,8,.none⟩=some (.string c.wa):=HS4.out.2.cell 8
  by_cases hd:ce.d=c.wa
  case neg =>
   rw [if_neg hd] at HX
   have hd':(ce.d.toList == c.wa.toList)=false:=(Lib.bytes_beq_false_iff _ _).2 hd
   clear hd
   go_wp2
   go_ret2
   exact ⟨by rw [HX.out];rfl,p,by rw [HX.out];exact HS4.out.1,rfl,rfl,HMV.out⟩
  rw [if_pos hd] at HX
  rw [hd] at c142
  clear hd
  have HLC:Hid ((Instr.loadAt 24 (.pointer (some ⟨b3,0,.none⟩))).run Tryz.prog Z3=.ok (.agg c.vs.toArray) Z3):=vv HS4.out.2
  go_wp2_with (with_reducible refine ak HLC.out rfl rfl ?_)
  refine (send_any HS4.out.1 HIa.out.1 HIa.out.2 c k HK.out.1).mono ?_
  rintro r Z4 ⟨rfl,p2,t2,k2,b2,m2⟩
  have HKB:Hid (p2.k=p.k∧p2.b=p.b):=⟨k2,b2⟩
  have HA4:Hid (G.At Z4 c13 (G.grV rs2 M.up) 51):=m2.at HAA.out.1 HAA.out.2
  replace HMV:Hid (ae p.F p2.F wa Z4):=HMV.out.trans m2
  by_cases hf:fullB M=true
  ·rw [if_pos hf] at HX
   have hs:qp M c=(0,6,M):=by unfold qp;rw [if_pos hf]
   rw [hs] at t2 ⊢
   have HT4:Hid (aa w0 Z4 t M p2):=t2
   rw [show ai ((0,6,M):Int × Int × TM).2.1=.iface 96 (.int .i64 6) from rfl]
   clear hf hs t2 k2 b2 m2
   go_wp2
   go_ret2
   exact ⟨by rw [HX.out];rfl,p2,by rw [HX.out];exact HT4.out,HKB.out.1,HKB.out.2,HMV.out⟩
  ·rw [if_neg hf] at HX
   have hs:qp M c=((M.dn.length:Int)+1,0,rq M c):=by unfold qp;rw [if_neg hf]
   rw [hs] at t2 ⊢
   have HG2:G.GOK rs2 (rq M c).up:=HG.out
   obtain ⟨V2,hV,tV,mV,mT⟩:=aa.putG (show aa w0 Z4 t (rq M c) p2 from t2) HG2
   have HV:Hid ((Instr.storeAt 51 (.pointer (some ⟨t,1,.none⟩)) (.agg (G.grV rs2 M.up).toArray)).run Tryz.prog Z4=.ok () V2):=hV
   have HTV:Hid (aa w0 V2 t { rq M c with rs:=rs2 } p2):=tV
   have HLG:Hid ((Instr.loadAt 51 (.pointer (some ⟨c13,0,.none⟩))).run Tryz.prog Z4=.ok (.agg (G.grV rs2 M.up).toArray) Z4):=G.gz HA4.out HG.out.vlen
   replace HMV:Hid (ae p.F p2.F wa V2):=HMV.out.trans mV
   rw [show ai (((M.dn.length:Int)+1,0,rq M c):Int × Int × TM).2.1=.nilIface from rfl]
   clear hf hs t2 k2 b2 m2 hV tV mV mT HG2
   go_wp2_with (first|with_reducible refine ak HLG.out rfl rfl ?_|with_reducible refine cu HV.out rfl rfl ?_)
   go_ret2
   exact ⟨by rw [HX.out];rfl,p2,by rw [HX.out];exact HTV.out,HKB.out.1,HKB.out.2,HMV.out⟩
end Go.Proofs.YtpkhdihoijkamaaGreatDoor.U
