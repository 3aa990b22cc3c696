/- Several texts of this seat in one: UConfl. No statement of the seat is proved here. -/
import Derived.Test.YtpkhdihoijkamaaGreatDoorWT
import Derived.Test.YtpkhdihoijkamaaGreatDoorZA39
import Derived.Test.YtpkhdihoijkamaaGreatDoorZA45
import Derived.Test.YtpkhdihoijkamaaGreatDoorZA41
import Derived.Test.YtpkhdihoijkamaaGreatDoorZA12
namespace Go.Proofs.YtpkhdihoijkamaaGreatDoor.U
open Go.ChangeShapes Go.WideShapes Go.ChangeAt Go.RowKit Go.Deep Go.Maps
open Go.Proofs.YtpkhdihoijkamaaGreatDoor.D
theorem mayU (s:KS) (a:Option Addr) (c:Nat) (who:Int) (wr:Bool) (w:World) (hr:Go.Proofs.YtpkhdihoijkamaaGreatDoor.Row w a s.l.length s.l) :
 Calls Tryz.prog 21 #[.agg (s.vs a c).toArray,.int .i64 who,.bool wr] w fun e w'=>e=.returned (.bool (jy s.t s.hd s.l who wr))∧Below w.heap.size w w':=zz s.g s.t s.hd a s.l.length c s.y s.l who wr w hr
theorem confl_no (M:TM) (c:CmD) (hc:c.op=7∨c.op=8∨c.op=9) (h:mayC M c=false):kr M c=(⟨ll,0,0,4⟩,M):=by
 have hF:ji M c=4:=by unfold ji;rw [if_neg (by rw [h];simp)]
 have hM:ic M c=M:=by unfold ic;rw [if_neg (by rw [h];simp)]
 have h40:¬(4:Int)=0:=by decide
 unfold kr
 rcases hc with e|e|e
 ·rw [if_pos e];unfold j4;rw [hF,if_neg h40,hM]
 ·rw [if_neg (by omega),if_pos e];unfold qb;rw [hF,if_neg h40,hM]
 ·rw [if_neg (by omega),if_neg (by omega),if_pos e];unfold jg;rw [hF,if_neg h40,hM]
theorem confl_yes (M:TM) (c:CmD) (hc:c.op=7∨c.op=8∨c.op=9) (h:mayC M c=true):(kr M c).1.f≠4:=by
 have hF:ji M c=0∨ji M c=7:=by
  unfold ji uw;rw [if_pos h];split
  ·exact .inl rfl
  ·exact .inr rfl
 have hF4:ji M c≠4:=by omega
 unfold kr
 rcases hc with e|e|e
 ·rw [if_pos e];unfold j4;repeat' split
  all_goals first|exact hF4|exact (by decide:(0:Int)≠4)|exact (by decide:(7:Int)≠4)
 ·rw [if_neg (by omega),if_pos e];unfold qb qp;repeat' split
  all_goals first|exact hF4|exact (by decide:(0:Int)≠4)|exact (by decide:(6:Int)≠4)
 ·rw [if_neg (by omega),if_neg (by omega),if_pos e];unfold jg zt;repeat' split
  all_goals first|exact hF4|exact (by decide:(0:Int)≠4)|exact (by decide:(6:Int)≠4)|exact (by decide:(7:Int)≠4)|exact (by decide:(9:Int)≠4)
structure InH (w0 wr:World) (t b8:Nat) (M':TM) (p':TP) (s:KS) (a1:Option Addr) (c1:Nat) (fv:Value) (fly:List ed):Prop where
 tg:aa w0 wr t M' p'
 A8:At wr b8 (s.vs a1 c1) 36
 R8:Go.Proofs.YtpkhdihoijkamaaGreatDoor.Row wr a1 s.l.length s.l
 FV:ek 116 6 wr fv fly.length (gu fly)
theorem InH.later {w0 wr wx:World} {t b8:Nat} {M':TM} {p':TP} {s:KS} {a1:Option Addr} {c1:Nat} {fv:Value} {fly:List ed} (h:InH w0 wr t b8 M' p' s a1 c1 fv fly) (hb:Below wr.heap.size wr wx):InH w0 wx t b8 M' p' s a1 c1 fv fly :=
 ⟨h.tg.later hb,h.A8.later hb h.A8.lt,h.R8.later hb,h.FV.later hb (Nat.le_refl _)⟩
set_option maxRecDepth 100000 in
set_option maxHeartbeats 16000000 in
theorem topConflict_walk (w:World) (hL:K.Laid w) (a:Option Addr) (n c:Nat) (l:List ig) (h:jh w a n l) (hop:jq l) (cm:CmD) (hcop:(Lit.int .i64 cm.op).wf=true) (hcd:cm.da.size≤9223372036854775807) (hcw:cm.wa.size≤9223372036854775807) :
 Calls Tryz.prog 6 #[.slice a n c,.agg cm.vs.toArray] w fun r w'=>r=.returned (.bool true)∧Below w.heap.size w w':=by
 obtain rfl:=h.len
 obtain ⟨X,hX,a0,bX,sX⟩:=Go.Proofs.YtpkhdihoijkamaaGreatDoor.D.one w (.cells cm.vs.toArray 24)
 have HC0:Hid (At X w.heap.size cm.vs 24):=a0
 have HCO:Hid ((Lit.int .i64 cm.op).wf=true∧cm.da.size≤9223372036854775807∧cm.wa.size≤9223372036854775807):=⟨hcop,hcd,hcw⟩
 have HL:Hid (K.Laid X):=hL.later bX
 have HA:Hid (jh X a l.length l∧jq l):=⟨h.later bX,hop⟩
 have HB0:Hid (Below w.heap.size w X):=bX
 clear h hop hL a0 bX sX hcop hcd hcw
 go_enter Tryz.func6,Tryz.ntmps6
 go_wp2_with fail
 rw [←hX]
 clear hX
 obtain ⟨b3,hb3⟩:∃ b3,w.heap.size=b3:=⟨_,rfl⟩
 have HB3:Hid (w.heap.size=b3):=hb3
 rw [hb3] at HC0 ⊢
 clear hb3
 refine (zy X HL.out).mono ?_
 rintro r W0 ⟨rfl,bw0⟩
 replace HB0:Hid (Below w.heap.size w W0):=HB0.out.trans (bw0.mono HB0.out.size)
 have HL0:Hid (K.Laid W0):=HL.out.later bw0
 have HA0:Hid (jh W0 a l.length l∧jq l):=⟨HA.out.1.later bw0,HA.out.2⟩
 replace HC0:Hid (At W0 b3 cm.vs 24):=HC0.out.later bw0 HC0.out.lt
 clear bw0 HL HA
 go_wp2_with fail
 refine (aa5 W0 HL0.out a l.length c l HA0.out.1 HA0.out.2).mono ?_
 rintro r V ⟨bV,hres⟩
 rcases hres with ⟨hl,rfl⟩|⟨hl,t,p,D,rfl,hA⟩
 ·have HBW:Hid (Below w.heap.size w V):=HB0.out.trans (bV.mono HB0.out.size)
  clear bV hl HL0 HA0 HC0 HCO HB0
  go_wp2
  go_ret
  exact ⟨rfl,HBW.out⟩
 have HN:Hid (l.length≤80):=by show l.length≤80;simp [om] at hl;omega
 have HPL:Hid (Plain W0 V t (gp (dh D) l) p l.length):=hA.plain
 have HC:Hid (At V b3 cm.vs 24∧¬p.F b3):=⟨HC0.out.later bV HC0.out.lt,fun f=>by have:=hA.tg.above b3 f;have:=HC0.out.lt;omega⟩
 generalize gp (dh D) l=M at *
 generalize p.b=b at *
 clear bV hl hA HA0 HC0
 have HLC:Hid ((Instr.loadAt 24 (.pointer (some ⟨b3,0,.none⟩))).run Tryz.prog V=.ok (.agg cm.vs.toArray) V):=vv HC.out.1
 have HCK:Hid (Calls Tryz.prog 17 #[.agg cm.vs.toArray] V fun r w'=>r=.returned (ai cm.f)∧Below V.heap.size V w'):=K.aas cm.op cm.who cm.key cm.new cm.ty cm.at' cm.st cm.da cm.wa HCO.out.1 HCO.out.2.1 HCO.out.2.2 V
 go_wp2_with (with_reducible refine ak HLC.out rfl rfl ?_)
 refine HCK.out.mono ?_
 rintro r V1 ⟨rfl,bV⟩
 replace HPL:Hid (Plain W0 V1 t M p l.length):=⟨HPL.out.tg.later bV,HPL.out.ti,HPL.out.al⟩
 replace HC:Hid (At V1 b3 cm.vs 24∧¬p.F b3):=⟨HC.out.1.later bV HC.out.1.lt,HC.out.2⟩
 clear bV HLC HCK
 by_cases hc:cm.f=0
 case neg =>
  rw [ut hc]
  have HBW:Hid (Below w.heap.size w V1):=HB0.out.trans (HPL.out.tg.bw.mono HB0.out.size)
  clear hc
  go_wp2
  go_ret
  exact ⟨rfl,HBW.out⟩
 rw [hc,show ai 0=.nilIface from rfl]
 have HF:Hid (cm.f=0):=hc
 clear hc
 have c30:V1.cell? ⟨b3,0,.none⟩=some (.int .i64 cm.op):=HC.out.1.cell 0
 by_cases h7:cm.op<7
 case pos =>
  have HBW:Hid (Below w.heap.size w V1):=HB0.out.trans (HPL.out.tg.bw.mono HB0.out.size)
  go_wp2
  go_ret
  exact ⟨rfl,HBW.out⟩
 have H7:Hid (¬cm.op<7):=h7
 go_wp2_with fail
 clear c30 h7
 refine HPL.out.tg.st.mono ?_
 rintro r V2 ⟨a1,c1,rfl,r1,_,b2⟩
 obtain ⟨V3,hst,A8,b3'⟩:=newS M.s a1 c1 V2
 have HST:Hid ((Instr.storeAt 36 (.pointer (some ⟨V2.heap.size,0,.none⟩)) (.agg (M.s.vs a1 c1).toArray)).run Tryz.prog (V2.alloc (.cells #[.int .i64 0,.slice .none 0 0,.int .i64 0,.int .i64 0,.bool false] 36))=.ok () V3):=hst
 have h8:¬p.F V2.heap.size:=fun f=>by have:=HPL.out.tg.foot _ f;have:=b2.size;omega
 obtain ⟨b8,hb8⟩:∃ b8,V2.heap.size=b8:=⟨_,rfl⟩
 have H8:Hid (At V3 b8 (M.s.vs a1 c1) 36∧iy V3 p a1 M.s∧¬p.F b8):=⟨by rw [←hb8];exact A8,r1.later b3',by rw [←hb8];exact h8⟩
 have HT3:Hid (aa W0 V3 t M p):=(HPL.out.tg.later b2).later b3'
 have HC3:Hid (At V3 b3 cm.vs 24):=(HC.out.1.later b2 HC.out.1.lt).later b3' (by have:=HC.out.1.lt;have:=b2.size;omega)
 have HB8:Hid (V2.heap.size=b8):=hb8
 clear hst A8 b3' r1 b2 h8 hb8
 go_wp2_with (with_reducible refine cu HST.out rfl rfl ?_)
 clear HST
 rw [HB8.out]
 clear HB8
 refine (aaj HT3.out (by have:=HPL.out.ti.fn;omega)).mono ?_
 rintro r V6 ⟨fv,rfl,ho,hn,b6⟩
 have HQ0:Hid (InF W0 V6 t b3 b8 M p l.length cm M.s a1 c1 fv M.fly):=⟨⟨HT3.out.later b6,HPL.out.ti,HPL.out.al⟩,HC3.out.later b6 HC3.out.lt,H8.out.1.later b6 H8.out.1.lt,H8.out.2.1.later b6,ho,HC.out.2,H8.out.2.2,fun q hq f=>by have:=hn q hq;have:=HT3.out.foot q f;omega⟩
 have HLD:Hid ((Instr.loadAt 36 (.pointer (some ⟨b8,0,.none⟩))).run Tryz.prog V6=.ok (.agg (M.s.vs a1 c1).toArray) V6):=jk HQ0.out.A8
 have c30:V6.cell? ⟨b3,0,.none⟩=some (.int .i64 cm.op):=HQ0.out.A3.cell 0
 have c31:V6.cell? ⟨b3,1,.none⟩=some (.int .i64 cm.who):=HQ0.out.A3.cell 1
 clear ho hn b6 HT3 HC3 H8 HC HPL
 go_wp2_with (with_reducible refine ak HLD.out rfl rfl ?_)
 refine (mayU M.s a1 c1 cm.who (cm.op != 7) V6 HQ0.out.R8.row).mono ?_
 rintro r V7 ⟨rfl,b7⟩
 replace HQ0:Hid (InF W0 V7 t b3 b8 M p l.length cm M.s a1 c1 fv M.fly):=HQ0.out.later b7
 clear HLD c30 c31 b7
 have HLC:Hid ((Instr.loadAt 24 (.pointer (some ⟨b3,0,.none⟩))).run Tryz.prog V7=.ok (.agg cm.vs.toArray) V7):=vv HQ0.out.A3
 have HAS:Hid (Calls Tryz.prog 20 #[.pointer (some ⟨t,0,.none⟩),.agg cm.vs.toArray] V7 fun r w'=>r=.returned (.tuple #[.string (au M cm).1.data,.int .i64 (au M cm).1.tag,ai (au M cm).1.f]) ∧
  ∃ p',aa W0 w' t (au M cm).2 p'∧p'.k=p.k∧p'.b=p.b∧ae p.F p'.F V7 w'):=askT_any HQ0.out.pl.tg HL0.out HQ0.out.pl.ti (by have:=HN.out;omega) HQ0.out.pl.al.bi cm HCO.out.1 HCO.out.2.1 HCO.out.2.2
 go_wp2_with (with_reducible refine ak HLC.out rfl rfl ?_)
 refine HAS.out.mono ?_
 rintro r V8 ⟨rfl,p',hT,_,_,hm⟩
 have hopc:cm.op=7∨cm.op=8∨cm.op=9:=by have:=(Go.Proofs.YtpkhdihoijkamaaGreatDoor.cmd_ok HF.out).op9;have:=H7.out;omega
 have hR:au M cm=kr (mute M cm) cm:=by unfold au;rw [if_pos HF.out]
 have hmc:mayC (mute M cm) cm=jy M.s.t M.s.hd M.s.l cm.who (cm.op != 7):=rfl
 have HX0:Hid (jy M.s.t M.s.hd M.s.l cm.who (cm.op != 7)=false→(au M cm).1=⟨ll,0,0,4⟩∧(au M cm).2.fly=M.fly):=fun h=>by rw [hR,confl_no _ cm hopc (hmc.trans h)];exact ⟨rfl,rfl⟩
 have HX1:Hid (jy M.s.t M.s.hd M.s.l cm.who (cm.op != 7)=true→(au M cm).1.f≠4):=fun h=>by rw [hR];exact confl_yes _ cm hopc (hmc.trans h)
 have HSS:Hid ((au M cm).2.s=M.s):=by show _=_;rw [hR];exact (ask2_s (mute M cm) cm hopc).1
 have HFN:Hid (M.fly.length≤40):=HQ0.out.pl.ti.fn
 have HQ:Hid (InH W0 V8 t b8 (au M cm).2 p' M.s a1 c1 fv M.fly):=⟨hT,hm.at HQ0.out.A8 HQ0.out.o8,(HQ0.out.R8.moved hm).row,HQ0.out.FV.moved hm HQ0.out.oF⟩
 obtain ⟨mb,hmb⟩:∃ mb,jy M.s.t M.s.hd M.s.l cm.who (cm.op != 7)=mb:=⟨_,rfl⟩
 rw [hmb] at HX0 HX1 ⊢
 generalize au M cm=R at *
 obtain ⟨A,M'⟩:=R
 replace HQ:Hid (InH W0 V8 t b8 M' p' M.s a1 c1 fv M.fly):=HQ.out
 replace HSS:Hid (M'.s=M.s):=HSS.out
 replace HX1:Hid (mb=true→A.f≠4):=HX1.out
 replace HX0:Hid (mb=false→A=⟨ll,0,0,4⟩∧M'.fly=M.fly):=HX0.out
 generalize M.s=s at *
 generalize M.fly=fly at *
 clear hR hmc hT hm HAS HLC HQ0 HF HN HCO HL0 H7 hopc hmb
 go_upto_region 11 with fail
 refine ql (S:=fun w'=>At w' b8 (s.vs a1 c1) 36) (by kernel_rfl) ?_
 intro V9 hV bV sV
 replace HQ:Hid (InH W0 V9 t b8 M' p' s a1 c1 fv fly):=HQ.out.later bV
 have HS:Hid (At V9 b8 (s.vs a1 c1) 36):=HQ.out.A8
 clear hV bV sV
 refine wpG 0 (.pointer (some ⟨t,0,.none⟩)) HS.out ?_
 refine wpT 2 (.agg (s.vs a1 c1).toArray) (.inl ⟨rfl,fun w' hw'=>?_⟩) HS.out ?_
 ·exact jc (jk hw') rfl
 (try simp [Act.put])
 refine wpA 1 (wpS ?_)
 go_wp2_with fail
 refine HQ.out.tg.st.mono ?_
 rintro r Y1 ⟨a2,c2,rfl,r2,_,b2⟩
 replace HQ:Hid (InH W0 Y1 t b8 M' p' s a1 c1 fv fly):=HQ.out.later b2
 replace HS:Hid (At Y1 b8 (s.vs a1 c1) 36):=HQ.out.A8
 have HR2:Hid (Go.Proofs.YtpkhdihoijkamaaGreatDoor.Row Y1 a2 s.l.length s.l):=by have:=r2.row;rw [HSS.out] at this;exact this
 rw [HSS.out]
 clear r2 b2
 refine ⟨HS.out,?_⟩
 (try simp [Act.put])
 refine wpA 3 (wpS ?_)
 go_wp2_with fail
 refine (Go.Proofs.YtpkhdihoijkamaaGreatDoor.abk s.g s.t s.hd a2 a1 s.l.length s.l.length c2 c1 s.y s.l Y1 HR2.out HQ.out.R8).mono ?_
 rintro r Y2 ⟨rfl,b2⟩
 replace HQ:Hid (InH W0 Y2 t b8 M' p' s a1 c1 fv fly):=HQ.out.later b2
 replace HS:Hid (At Y2 b8 (s.vs a1 c1) 36):=HQ.out.A8
 clear b2 HR2
 refine ⟨HS.out,?_⟩
 (try simp [Act.put])
 refine wpG 4 (.bool false) HS.out ?_
 (try simp [Act.put])
 refine wpZ ?_
 (try simp [Act.put])
 cases mb
 case false =>
  have hA:=HX0.out rfl
  obtain ⟨rfl,hfl⟩:=hA
  have HMF:Hid (M'.fly=fly):=hfl
  clear hfl
  clear HX0 HX1
  have HNU:Hid (∀ W,Calls Tryz.prog 29 #[ai 4] W fun e w'=>e=.returned (.int .i64 4)∧w'=W):=fun W=>aa2 4 W
  go_wp2_with fail
  refine (HNU.out _).mono ?_
  rintro r Z ⟨rfl,hZ⟩
  obtain rfl:=hZ.symm
  go_wp2_with fail
  refine (aaj HQ.out.tg (by rw [HMF.out];have:=HFN.out;omega)).mono ?_
  rintro r Y4 ⟨v2,rfl,ho2,_,b2⟩
  replace HQ:Hid (InH W0 Y4 t b8 M' p' s a1 c1 fv fly):=HQ.out.later b2
  have HO2:Hid (ek 116 6 Y4 v2 fly.length (gu fly)):=by rw [HMF.out] at ho2;exact ho2
  clear b2 ho2
  go_wp2_with fail
  refine (sameMs_any v2 fv fly Y4 HO2.out HQ.out.FV (by have:=HFN.out;omega)).mono ?_
  rintro r Y5 ⟨rfl,b2⟩
  have HE:Hid (Below w.heap.size w Y5):=HB0.out.trans (((HQ.out.later b2).tg.bw).mono HB0.out.size)
  clear b2 HO2 HQ
  go_wp2
  go_ret
  exact ⟨rfl,HE.out⟩
 case true =>
  have hne:=HX1.out rfl
  have HE:Hid (Below w.heap.size w Y2):=HB0.out.trans (HQ.out.tg.bw.mono HB0.out.size)
  have HNU:Hid (∀ W,Calls Tryz.prog 29 #[ai A.f] W fun e w'=>e=.returned (.int .i64 A.f)∧w'=W):=fun W=>aa2 A.f W
  clear HX0 HX1 HQ
  go_wp2_with fail
  refine (HNU.out _).mono ?_
  rintro r Z ⟨rfl,hZ⟩
  obtain rfl:=hZ.symm
  go_wp2
  go_ret
  exact ⟨by simp [hne],HE.out⟩
end Go.Proofs.YtpkhdihoijkamaaGreatDoor.U
