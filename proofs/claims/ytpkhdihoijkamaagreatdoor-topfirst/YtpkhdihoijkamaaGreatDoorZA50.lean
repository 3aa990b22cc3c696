/- Several texts of this seat in one: UFirst. No statement of the seat is proved here. -/
import Derived.Test.YtpkhdihoijkamaaGreatDoorWT
import Derived.Test.YtpkhdihoijkamaaGreatDoorZA39
import Derived.Test.YtpkhdihoijkamaaGreatDoorZA45
import Derived.Test.YtpkhdihoijkamaaGreatDoorZA41
import Derived.Test.YtpkhdihoijkamaaGreatDoorZA12
namespace Go.Proofs.YtpkhdihoijkamaaGreatDoor.U
open Go.ChangeShapes Go.WideShapes Go.ChangeAt Go.RowKit Go.Deep Go.Maps
open Go.Proofs.YtpkhdihoijkamaaGreatDoor.D
attribute [local go_sem] zc78
structure InG (w0 wr:World) (t b8 b9:Nat) (M':TM) (p':TP) (s:KS) (a1:Option Addr) (c1:Nat) (rs:List G.Rep) (up:List Bool) (fv:Value) (fly:List ed):Prop where
 tg:aa w0 wr t M' p'
 A8:At wr b8 (s.vs a1 c1) 36
 R8:Go.Proofs.YtpkhdihoijkamaaGreatDoor.Row wr a1 s.l.length s.l
 A9:G.At wr b9 (G.grV rs up) 51
 FV:ek 116 6 wr fv fly.length (gu fly)
theorem InG.later {w0 wr wx:World} {t b8 b9:Nat} {M':TM} {p':TP} {s:KS} {a1:Option Addr} {c1:Nat} {rs:List G.Rep} {up:List Bool} {fv:Value} {fly:List ed} (h:InG w0 wr t b8 b9 M' p' s a1 c1 rs up fv fly) (hb:Below wr.heap.size wr wx):InG w0 wx t b8 b9 M' p' s a1 c1 rs up fv fly :=
 ⟨h.tg.later hb,h.A8.later hb h.A8.lt,h.R8.later hb,h.A9.later hb h.A9.lt,h.FV.later hb (Nat.le_refl _)⟩
set_option maxRecDepth 100000 in
set_option maxHeartbeats 16000000 in
theorem topFirst_walk (w:World) (hL:K.Laid w) (a:Option Addr) (n c:Nat) (l:List ig) (h:jh w a n l) (hop:jq l) (cm:CmD) (hcop:(Lit.int .i64 cm.op).wf=true) (hcd:cm.da.size≤9223372036854775807) (hcw:cm.wa.size≤9223372036854775807) :
 Calls Tryz.prog 12 #[.slice a n c,.agg cm.vs.toArray] w fun r w'=>r=.returned (.bool true)∧Below w.heap.size w w':=by
 obtain rfl:=h.len
 obtain ⟨X,hX,a0,bX,sX⟩:=Go.Proofs.YtpkhdihoijkamaaGreatDoor.D.one w (.cells cm.vs.toArray 24)
 have HC0:Hid (At X w.heap.size cm.vs 24):=a0
 have HCO:Hid ((Lit.int .i64 cm.op).wf=true∧cm.da.size≤9223372036854775807∧cm.wa.size≤9223372036854775807):=⟨hcop,hcd,hcw⟩
 have HL:Hid (K.Laid X):=hL.later bX
 have HA:Hid (jh X a l.length l∧jq l):=⟨h.later bX,hop⟩
 have HB0:Hid (Below w.heap.size w X):=bX
 clear h hop hL a0 bX sX hcop hcd hcw
 go_enter Tryz.func12,Tryz.ntmps12
 go_wp2_with fail
 rw [←hX]
 clear hX
 obtain ⟨b3,hb3⟩:∃ b3,w.heap.size=b3:=⟨_,rfl⟩
 have HB3:Hid (w.heap.size=b3):=hb3
 rw [hb3] at HC0 ⊢
 clear hb3
 refine (zy X HL.out).mono ?_
 rintro r W0 ⟨rfl,bw0⟩
 replace HB0:Hid (Below w.heap.size w W0):=HB0.out.trans (bw0.mono HB0.out.size)
 have HL0:Hid (K.Laid W0):=HL.out.later bw0
 have HA0:Hid (jh W0 a l.length l∧jq l):=⟨HA.out.1.later bw0,HA.out.2⟩
 replace HC0:Hid (At W0 b3 cm.vs 24):=HC0.out.later bw0 HC0.out.lt
 clear bw0 HL HA
 go_wp2_with fail
 refine (aa5 W0 HL0.out a l.length c l HA0.out.1 HA0.out.2).mono ?_
 rintro r V ⟨bV,hres⟩
 rcases hres with ⟨hl,rfl⟩|⟨hl,t,p,D,rfl,hA⟩
 ·have HBW:Hid (Below w.heap.size w V):=HB0.out.trans (bV.mono HB0.out.size)
  clear bV hl HL0 HA0 HC0 HCO HB0
  go_wp2
  go_ret
  exact ⟨rfl,HBW.out⟩
 have HN:Hid (l.length≤80):=by show l.length≤80;simp [om] at hl;omega
 have HPL:Hid (Plain W0 V t (gp (dh D) l) p l.length):=hA.plain
 have HC:Hid (At V b3 cm.vs 24∧¬p.F b3):=⟨HC0.out.later bV HC0.out.lt,fun f=>by have:=hA.tg.above b3 f;have:=HC0.out.lt;omega⟩
 generalize gp (dh D) l=M at *
 generalize p.b=b at *
 clear bV hl hA HA0 HC0
 have HLC:Hid ((Instr.loadAt 24 (.pointer (some ⟨b3,0,.none⟩))).run Tryz.prog V=.ok (.agg cm.vs.toArray) V):=vv HC.out.1
 have HCK:Hid (Calls Tryz.prog 17 #[.agg cm.vs.toArray] V fun r w'=>r=.returned (ai cm.f)∧Below V.heap.size V w'):=K.aas cm.op cm.who cm.key cm.new cm.ty cm.at' cm.st cm.da cm.wa HCO.out.1 HCO.out.2.1 HCO.out.2.2 V
 go_wp2_with (with_reducible refine ak HLC.out rfl rfl ?_)
 refine HCK.out.mono ?_
 rintro r V1 ⟨rfl,bV⟩
 replace HPL:Hid (Plain W0 V1 t M p l.length):=⟨HPL.out.tg.later bV,HPL.out.ti,HPL.out.al⟩
 replace HC:Hid (At V1 b3 cm.vs 24∧¬p.F b3):=⟨HC.out.1.later bV HC.out.1.lt,HC.out.2⟩
 clear bV HLC HCK
 by_cases hc:cm.f=0
 case neg =>
  rw [ut hc]
  have HBW:Hid (Below w.heap.size w V1):=HB0.out.trans (HPL.out.tg.bw.mono HB0.out.size)
  clear hc
  go_wp2
  go_ret
  exact ⟨rfl,HBW.out⟩
 rw [hc,show ai 0=.nilIface from rfl]
 have HF:Hid (cm.f=0):=hc
 clear hc
 go_wp2_with fail
 refine HPL.out.tg.st.mono ?_
 rintro r V2 ⟨a1,c1,rfl,r1,_,b2⟩
 obtain ⟨V3,hst,A8,b3'⟩:=newS M.s a1 c1 V2
 have HST:Hid ((Instr.storeAt 36 (.pointer (some ⟨V2.heap.size,0,.none⟩)) (.agg (M.s.vs a1 c1).toArray)).run Tryz.prog (V2.alloc (.cells #[.int .i64 0,.slice .none 0 0,.int .i64 0,.int .i64 0,.bool false] 36))=.ok () V3):=hst
 have h8:¬p.F V2.heap.size:=fun f=>by have:=HPL.out.tg.foot _ f;have:=b2.size;omega
 obtain ⟨b8,hb8⟩:∃ b8,V2.heap.size=b8:=⟨_,rfl⟩
 have H8:Hid (At V3 b8 (M.s.vs a1 c1) 36∧iy V3 p a1 M.s∧¬p.F b8):=⟨by rw [←hb8];exact A8,r1.later b3',by rw [←hb8];exact h8⟩
 have HT3:Hid (aa W0 V3 t M p):=(HPL.out.tg.later b2).later b3'
 have HC3:Hid (At V3 b3 cm.vs 24):=(HC.out.1.later b2 HC.out.1.lt).later b3' (by have:=HC.out.1.lt;have:=b2.size;omega)
 have HB8:Hid (V2.heap.size=b8):=hb8
 clear hst A8 b3' r1 b2 h8 hb8
 go_wp2_with (with_reducible refine cu HST.out rfl rfl ?_)
 clear HST
 rw [HB8.out]
 clear HB8
 refine (aal HT3.out.hd HT3.out.len).mono ?_
 rintro r V4 ⟨rfl,b4⟩
 obtain ⟨V5,hst,A9,b5⟩:=G.newG HT3.out.ok V4
 have HST:Hid ((Instr.storeAt 51 (.pointer (some ⟨V4.heap.size,0,.none⟩)) (.agg (G.grV M.rs M.up).toArray)).run Tryz.prog (V4.alloc (.cells G.z78.toArray 51))=.ok () V5):=hst
 obtain ⟨b9,hb9⟩:∃ b9,V4.heap.size=b9:=⟨_,rfl⟩
 have h9:¬p.F b9:=fun f=>by have:=HT3.out.foot _ f;have:=b4.size;omega
 have H9:Hid (G.At V5 b9 (G.grV M.rs M.up) 51∧¬p.F b9):=⟨by rw [←hb9];exact A9,h9⟩
 replace H8:Hid (At V5 b8 (M.s.vs a1 c1) 36∧iy V5 p a1 M.s∧¬p.F b8):=⟨(H8.out.1.later b4 H8.out.1.lt).later b5 (by have:=H8.out.1.lt;have:=b4.size;omega),(H8.out.2.1.later b4).later b5,H8.out.2.2⟩
 replace HC3:Hid (At V5 b3 cm.vs 24):=(HC3.out.later b4 HC3.out.lt).later b5 (by have:=HC3.out.lt;have:=b4.size;omega)
 replace HT3:Hid (aa W0 V5 t M p):=(HT3.out.later b4).later b5
 have HB9:Hid (V4.heap.size=b9):=hb9
 clear hst A9 b4 b5 h9 hb9
 go_wp2_with (with_reducible refine cu HST.out rfl rfl ?_)
 clear HST
 rw [HB9.out]
 clear HB9
 refine (aaj HT3.out (by have:=HPL.out.ti.fn;omega)).mono ?_
 rintro r V6 ⟨fv,rfl,ho,hn,b6⟩
 have HQ0:Hid (InF W0 V6 t b3 b8 M p l.length cm M.s a1 c1 fv M.fly):=⟨⟨HT3.out.later b6,HPL.out.ti,HPL.out.al⟩,HC3.out.later b6 HC3.out.lt,H8.out.1.later b6 H8.out.1.lt,H8.out.2.1.later b6,ho,HC.out.2,H8.out.2.2,fun q hq f=>by have:=hn q hq;have:=HT3.out.foot q f;omega⟩
 have H9':Hid (G.At V6 b9 (G.grV M.rs M.up) 51∧¬p.F b9):=⟨H9.out.1.later b6 H9.out.1.lt,H9.out.2⟩
 have HLC:Hid ((Instr.loadAt 24 (.pointer (some ⟨b3,0,.none⟩))).run Tryz.prog V6=.ok (.agg cm.vs.toArray) V6):=vv HQ0.out.A3
 have HAS:Hid (Calls Tryz.prog 36 #[.pointer (some ⟨t,0,.none⟩),.agg cm.vs.toArray] V6 fun r w'=>r=.returned (.tuple #[.string (av M cm).1.data,.int .i64 (av M cm).1.tag,.int .i64 (av M cm).1.what,ai (av M cm).1.f]) ∧
  ∃ p',aa W0 w' t (av M cm).2 p'∧p'.k=p.k∧p'.b=p.b∧ae p.F p'.F V6 w'):=zu HQ0.out.pl.tg HL0.out HQ0.out.pl.ti (by have:=HN.out;omega) cm HCO.out.1 HCO.out.2.1 HCO.out.2.2
 have HFN:Hid (M.fly.length≤100000):=by have:=HPL.out.ti.fn;show M.fly.length≤100000;omega
 clear ho hn b6 HT3 HC3 H8 H9 HC HPL
 go_wp2_with (with_reducible refine ak HLC.out rfl rfl ?_)
 refine HAS.out.mono ?_
 rintro r V7 ⟨rfl,p',hT,_,_,hm⟩
 have HTN:Hid (aa W0 V7 t (av M cm).2 p'):=hT
 have HMV:Hid (ae p.F p'.F V6 V7):=hm
 clear hT hm HAS HLC
 by_cases hh:jf (M.L cm.j)=0
 ·have hw0:(av M cm).1.what=0:=by unfold av;rw [if_pos HF.out,if_pos hh];exact ask2_what _ _
  rw [hw0]
  have HE:Hid (Below w.heap.size w V7):=HB0.out.trans (HTN.out.bw.mono HB0.out.size)
  clear hw0 hh
  go_wp2
  go_ret
  exact ⟨rfl,HE.out⟩
 have hbi:=HQ0.out.pl.al.bi cm.j (cmd_j HF.out)
 obtain ⟨hd,hhd⟩:∃ hd,jf (M.L cm.j)=hd:=⟨_,rfl⟩
 have h14:1≤hd∧hd≤4:=by
  rw [←hhd]
  cases e:M.L cm.j with
  | nil=>rw [e] at hh;exact absurd rfl hh
  | cons x xs=>exact hbi x (by rw [e];exact List.mem_cons_self)
 have hask:av M cm=(⟨⟨#[]⟩,0,hd,0⟩,iw M cm):=by unfold av;rw [if_pos HF.out,if_neg hh,hhd];rfl
 rw [hask] at HTN ⊢
 have hne:¬(hd=0):=by omega
 have hd1:1≤hd:=h14.1
 have hd4:hd≤4:=h14.2
 rw [show ai 0=.nilIface from rfl]
 clear hbi hask hhd hh h14
 obtain ⟨M',hM'⟩:∃ M',iw M cm=M':=⟨_,rfl⟩
 have hs1:M'.s=M.s:=by rw [←hM'];rfl
 have hs2:M'.rs=M.rs:=by rw [←hM'];rfl
 have hs3:M'.up=M.up:=by rw [←hM'];rfl
 have hs4:M'.fly=M.fly:=by rw [←hM'];rfl
 rw [show (((⟨⟨#[]⟩,0,hd,0⟩:Ans),iw M cm).2)=M' from hM'] at HTN
 have HQ:Hid (InG W0 V7 t b8 b9 M' p' M.s a1 c1 M.rs M.up fv M.fly):=⟨HTN.out,HMV.out.at HQ0.out.A8 HQ0.out.o8,(HQ0.out.R8.moved HMV.out).row,HMV.out.at H9'.out.1 H9'.out.2,HQ0.out.FV.moved HMV.out HQ0.out.oF⟩
 have HGO:Hid (G.GOK M.rs M.up):=HQ0.out.pl.al.gi.ok
 have HMM:Hid (M'.s=M.s∧M'.rs=M.rs∧M'.up=M.up∧M'.fly=M.fly):=⟨hs1,hs2,hs3,hs4⟩
 generalize M.s=s at *
 generalize M.rs=rs at *
 generalize M.up=up at *
 generalize M.fly=fly at *
 clear hM' HTN HMV HQ0 H9' hs1 hs2 hs3 hs4 HF HN HCO HL0
 go_upto_region 13 with fail
 refine ql (S:=fun w'=>At w' b8 (s.vs a1 c1) 36∧G.At w' b9 (G.grV rs up) 51) (by kernel_rfl) ?_
 intro V8 hV bV sV
 replace HQ:Hid (InG W0 V8 t b8 b9 M' p' s a1 c1 rs up fv fly):=HQ.out.later bV
 have HS:Hid (At V8 b8 (s.vs a1 c1) 36∧G.At V8 b9 (G.grV rs up) 51):=⟨HQ.out.A8,HQ.out.A9⟩
 clear hV bV sV
 refine wpG 0 (.nilIface) HS.out ?_
 refine wpG 1 (.bool true) HS.out ?_
 refine wpG 2 (.bool true) HS.out ?_
 (try simp [Act.put])
 refine wpG 3 (.string ⟨#[]⟩) HS.out ?_
 refine wpG 4 (.bool true) HS.out ?_
 refine wpG 5 (.bool true) HS.out ?_
 (try simp [Act.put])
 refine wpG 6 (.bool true) HS.out ?_
 refine wpG 7 (.int .i64 0) HS.out ?_
 refine wpG 8 (.bool true) HS.out ?_
 (try simp [Act.put])
 refine wpG 9 (.bool true) HS.out ?_
 refine wpG 10 (.bool true) HS.out ?_
 refine wpG 11 (.int .i64 hd) HS.out ?_
 (try simp [Act.put])
 refine wpG 12 (.bool true) HS.out ?_
 refine wpG 13 (.bool true) HS.out ?_
 refine wpG 14 (.bool true) HS.out ?_
 (try simp [Act.put])
 refine wpG 15 (.int .i64 hd) HS.out ?_
 refine wpG 16 (.bool true) HS.out ?_
 refine wpG 17 (.bool true) HS.out ?_
 (try simp [Act.put])
 refine wpG 18 (.bool true) HS.out ?_
 refine wpG 19 (.pointer (some ⟨t,0,.none⟩)) HS.out ?_
 refine wpT 21 (.agg (s.vs a1 c1).toArray) (.inl ⟨rfl,fun w' hw'=>?_⟩) HS.out ?_
 ·exact jc (jk hw'.1) rfl
 (try simp [Act.put])
 refine wpA 20 ?_
 refine Go.Proofs.YtpkhdihoijkamaaGreatDoor.D.aa3 rfl rfl ?_
 go_wp2_with fail
 refine HQ.out.tg.st.mono ?_
 rintro r Y1 ⟨a2,c2,rfl,r2,_,b2⟩
 replace HQ:Hid (InG W0 Y1 t b8 b9 M' p' s a1 c1 rs up fv fly):=HQ.out.later b2
 replace HS:Hid (At Y1 b8 (s.vs a1 c1) 36∧G.At Y1 b9 (G.grV rs up) 51):=⟨HQ.out.A8,HQ.out.A9⟩
 have HR2:Hid (Go.Proofs.YtpkhdihoijkamaaGreatDoor.Row Y1 a2 s.l.length s.l):=by have:=r2.row;rw [HMM.out.1] at this;exact this
 rw [HMM.out.1]
 clear r2 b2
 refine ⟨HS.out,?_⟩
 (try simp [Act.put])
 refine wpA 22 ?_
 refine Go.Proofs.YtpkhdihoijkamaaGreatDoor.D.aa3 rfl rfl ?_
 go_wp2_with fail
 refine (Go.Proofs.YtpkhdihoijkamaaGreatDoor.abk s.g s.t s.hd a2 a1 s.l.length s.l.length c2 c1 s.y s.l Y1 HR2.out HQ.out.R8).mono ?_
 rintro r Y2 ⟨rfl,b2⟩
 replace HQ:Hid (InG W0 Y2 t b8 b9 M' p' s a1 c1 rs up fv fly):=HQ.out.later b2
 replace HS:Hid (At Y2 b8 (s.vs a1 c1) 36∧G.At Y2 b9 (G.grV rs up) 51):=⟨HQ.out.A8,HQ.out.A9⟩
 clear b2 HR2
 refine ⟨HS.out,?_⟩
 (try simp [Act.put])
 refine wpG 23 (.bool true) HS.out ?_
 refine wpG 24 (.bool true) HS.out ?_
 refine wpG 25 (.pointer (some ⟨t,0,.none⟩)) HS.out ?_
 (try simp [Act.put])
 refine wpT 27 (.agg (G.grV rs up).toArray) (.inl ⟨rfl,fun w' hw'=>?_⟩) HS.out ?_
 ·exact jc (G.gz hw'.2 HGO.out.vlen) rfl
 (try simp [Act.put])
 refine wpA 26 ?_
 refine Go.Proofs.YtpkhdihoijkamaaGreatDoor.D.aa3 rfl rfl ?_
 go_wp2_with fail
 refine (aal HQ.out.tg.hd HQ.out.tg.len).mono ?_
 rintro r Y3 ⟨rfl,b2⟩
 replace HQ:Hid (InG W0 Y3 t b8 b9 M' p' s a1 c1 rs up fv fly):=HQ.out.later b2
 replace HS:Hid (At Y3 b8 (s.vs a1 c1) 36∧G.At Y3 b9 (G.grV rs up) 51):=⟨HQ.out.A8,HQ.out.A9⟩
 rw [HMM.out.2.1,HMM.out.2.2.1]
 clear b2
 refine ⟨HS.out,?_⟩
 (try simp [Act.put])
 have heq:∀ W,(binOp .eql 51 (.agg (G.grV rs up).toArray) (.agg (G.grV rs up).toArray)).run Tryz.prog W=.ok (.bool true) W:=fun W=>by rw [run_eql_struct,run_eq_gr HGO.out W];rfl
 refine wpG 28 (.bool true) HS.out ?_
 refine wpG 29 (.bool true) HS.out ?_
 refine wpG 30 (.bool true) HS.out ?_
 (try simp [Act.put])
 refine wpG 31 (.pointer (some ⟨t,0,.none⟩)) HS.out ?_
 refine wpG 33 (fv) HS.out ?_
 (try simp [Act.put])
 refine wpA 32 ?_
 refine Go.Proofs.YtpkhdihoijkamaaGreatDoor.D.aa3 rfl rfl ?_
 go_wp2_with fail
 refine (aaj HQ.out.tg (by rw [HMM.out.2.2.2];exact HFN.out)).mono ?_
 rintro r Y4 ⟨v2,rfl,ho2,_,b2⟩
 replace HQ:Hid (InG W0 Y4 t b8 b9 M' p' s a1 c1 rs up fv fly):=HQ.out.later b2
 replace HS:Hid (At Y4 b8 (s.vs a1 c1) 36∧G.At Y4 b9 (G.grV rs up) 51):=⟨HQ.out.A8,HQ.out.A9⟩
 have HO2:Hid (ek 116 6 Y4 v2 fly.length (gu fly)):=by rw [HMM.out.2.2.2] at ho2;exact ho2
 clear b2 ho2 heq
 refine ⟨HS.out,?_⟩
 (try simp [Act.put])
 refine wpA 34 ?_
 refine Go.Proofs.YtpkhdihoijkamaaGreatDoor.D.aa3 rfl rfl ?_
 go_wp2_with fail
 refine (sameMs_any v2 fv fly Y4 HO2.out HQ.out.FV (by have:=HFN.out;omega)).mono ?_
 rintro r Y5 ⟨rfl,b2⟩
 replace HQ:Hid (InG W0 Y5 t b8 b9 M' p' s a1 c1 rs up fv fly):=HQ.out.later b2
 replace HS:Hid (At Y5 b8 (s.vs a1 c1) 36∧G.At Y5 b9 (G.grV rs up) 51):=⟨HQ.out.A8,HQ.out.A9⟩
 clear b2 HO2
 refine ⟨HS.out,?_⟩
 (try simp [Act.put])
 refine wpG 35 (.bool true) HS.out ?_
 refine wpG 36 (.bool true) HS.out ?_
 (try simp [Act.put])
 refine wpZ ?_
 (try simp [Act.put])
 have HE:Hid (Below w.heap.size w Y5):=HB0.out.trans (HQ.out.tg.bw.mono HB0.out.size)
 go_wp2
 go_ret
 exact ⟨rfl,HE.out⟩
end Go.Proofs.YtpkhdihoijkamaaGreatDoor.U
