/- Several texts of this seat in one: UAgain. No statement of the seat is proved here. -/
import Derived.Test.YtpkhdihoijkamaaGreatDoorZA46
import Derived.Test.YtpkhdihoijkamaaGreatDoorZA12
import Derived.Test.YtpkhdihoijkamaaGreatDoorZA41
namespace Go.Proofs.YtpkhdihoijkamaaGreatDoor.U
open Go.ChangeShapes Go.WideShapes Go.ChangeAt Go.RowKit Go.Deep Go.Maps
open Go.Proofs.YtpkhdihoijkamaaGreatDoor.D
set_option maxRecDepth 100000 in
set_option maxHeartbeats 16000000 in
theorem topAgain_walk (w:World) (hL:K.Laid w) (a:Option Addr) (n c:Nat) (l:List ig) (h:jh w a n l) (hop:jq l) (i:Int) (_:(Lit.int .i64 i).wf=true) :
 Calls Tryz.prog 9 #[.slice a n c,.int .i64 i] w fun r w'=>r=.returned (.bool true)∧Below w.heap.size w w':=by
 obtain rfl:=h.len
 have HL:Hid (K.Laid w):=hL
 have HA:Hid (jh w a l.length l∧jq l):=⟨h,hop⟩
 have HB0:Hid (Below w.heap.size w w):=Below.refl _ _
 clear h hop hL
 go_enter Tryz.func9,Tryz.ntmps9
 go_wp2_with fail
 refine (zy w HL.out).mono ?_
 rintro r W0 ⟨rfl,bw0⟩
 replace HB0:Hid (Below w.heap.size w W0):=HB0.out.trans (bw0.mono HB0.out.size)
 have HL0:Hid (K.Laid W0):=HL.out.later bw0
 have HA0:Hid (jh W0 a l.length l∧jq l):=⟨HA.out.1.later bw0,HA.out.2⟩
 clear bw0 HL HA
 go_wp2_with fail
 refine (aa5 W0 HL0.out a l.length c l HA0.out.1 HA0.out.2).mono ?_
 rintro r V ⟨bV,hres⟩
 rcases hres with ⟨hl,rfl⟩|⟨hl,t,p,D,rfl,hA⟩
 ·have HBW:Hid (Below w.heap.size w V):=HB0.out.trans (bV.mono HB0.out.size)
  clear bV hl HL0 HA0 HB0
  go_wp2
  go_ret
  exact ⟨rfl,HBW.out⟩
 have hn80:l.length≤80:=by simp [om] at hl;omega
 have HPL:Hid (Plain W0 V t (gp (dh D) l) p l.length):=hA.plain
 have HE82:Hid ((gp (dh D) l).e<1000000):=by
  have h1:=playL_e l (openAll hA.s0)
  have h2:(dh D).e=2:=rfl
  show (gp (dh D) l).e<1000000
  omega
 have HN:Hid (l.length≤80):=hn80
 generalize gp (dh D) l=M at *
 clear bV hl hn80 HA0
 by_cases h0:i<0
 ·have HBW:Hid (Below w.heap.size w V):=HB0.out.trans (HPL.out.tg.bw.mono HB0.out.size)
  go_wp2
  go_ret
  exact ⟨rfl,HBW.out⟩
 by_cases h7:7<i
 ·have HBW:Hid (Below w.heap.size w V):=HB0.out.trans (HPL.out.tg.bw.mono HB0.out.size)
  go_wp2
  go_ret
  exact ⟨rfl,HBW.out⟩
 obtain ⟨k,rfl⟩:∃ k:Nat,i=k:=⟨i.toNat,by omega⟩
 have HK8:Hid (k<8):=by show k<8;omega
 go_wp2_with fail
 clear h0 h7
 refine (aa8 HPL.out.tg k HK8.out).mono ?_
 rintro r V2 ⟨rfl,b2⟩
 obtain ⟨x,hx⟩:∃ x,fu M k=x:=⟨_,rfl⟩
 obtain ⟨mo,hmo⟩:∃ mo,jr M=mo:=⟨_,rfl⟩
 rw [hx,hmo]
 obtain ⟨V3,hst,A8,b3'⟩:=newCel x V2
 have HST:Hid ((Instr.storeAt 44 (.pointer (some ⟨V2.heap.size,0,.none⟩)) (.agg #[.int .i64 x.e,.int .i64 x.n,.string x.d])).run Tryz.prog (V2.alloc (.cells #[.int .i64 0,.int .i64 0,.string ⟨#[]⟩] 44))=.ok () V3):=hst
 obtain ⟨b8,hb8⟩:∃ b8,V2.heap.size=b8:=⟨_,rfl⟩
 have h8:¬p.F b8:=fun f=>by have:=HPL.out.tg.foot _ f;have:=b2.size;omega
 have H8:Hid (G.At V3 b8 x.vs 44∧¬p.F b8):=⟨by rw [←hb8];exact A8,h8⟩
 replace HPL:Hid (Plain W0 V3 t M p l.length):=⟨(HPL.out.tg.later b2).later b3',HPL.out.ti,HPL.out.al⟩
 have HB8:Hid (V2.heap.size=b8):=hb8
 have HXM:Hid (fu M k=x∧jr M=mo):=⟨hx,hmo⟩
 clear hst A8 b2 b3' h8 hb8 hx hmo
 go_upto_region 8 with (with_reducible refine cu HST.out rfl rfl ?_)
 clear HST
 rw [HB8.out]
 clear HB8
 go_wp2_with fail
 refine (aal HPL.out.tg.hd HPL.out.tg.len).mono ?_
 rintro r V4 ⟨rfl,b4⟩
 replace H8:Hid (G.At V4 b8 x.vs 44∧¬p.F b8):=⟨H8.out.1.later b4 H8.out.1.lt,H8.out.2⟩
 replace HPL:Hid (Plain W0 V4 t M p l.length):=⟨HPL.out.tg.later b4,HPL.out.ti,HPL.out.al⟩
 clear b4
 have HT:=HPL.out.tg
 have HSI:Hid (SI M):=HPL.out.al.si
 have HNW:Hid (Calls Tryz.prog 37 #[.pointer (some ⟨p.b,0,.none⟩),.agg (G.grV M.rs M.up).toArray] V4 fun r w'=>∃ t2 p2,aa W0 w' t2 (dm M.e M.s M.D M.rs M.up).2 p2∧p2.b=p.b∧V4.heap.size≤t2∧ae (DF p.P p.b) p2.F V4 w' ∧
  (((dm M.e M.s M.D M.rs M.up).1=0→r=.returned (.tuple #[.pointer (some ⟨t2,0,.none⟩),.nilIface]))∧((dm M.e M.s M.D M.rs M.up).1≠0→r=.returned (.tuple #[.pointer .none,ai (dm M.e M.s M.D M.rs M.up).1])))) :=
  tnew_any HT.kk.d HSI.out.ck.up M.e M.s HSI.out.f HSI.out.e1 HSI.out.e9 HSI.out.ck.now HL0.out HT.bw (fun q f=>HT.above q (by show p.col q≠0;rw [HT.cK q (.inl f)];decide)) HT.ok
 clear HT HSI
 go_wp2_with fail
 refine HNW.out.mono ?_
 rintro r V5 ⟨t2,p2,hT2,hb2,ht2,hm2,hr0,hr1⟩
 have hsay:=new_says HPL.out.al HE82.out
 rw [HXM.out.2] at hsay
 have HE5:Hid (Below w.heap.size w V5):=HB0.out.trans (hT2.bw.mono HB0.out.size)
 by_cases hf:(dm M.e M.s M.D M.rs M.up).1=0
 case neg =>
  obtain rfl:=hr1 hf
  obtain ⟨h1,h2⟩:=hsay.1 hf
  subst h1
  rw [h2,show ai 7=.iface 96 (.int .i64 7) from rfl]
  have HNU:Hid (Calls Tryz.prog 29 #[.iface 96 (.int .i64 7)] V5 fun r w'=>r=.returned (.int .i64 7)∧w'=V5):=aa2 7 V5
  clear hsay h2 hf hT2 hb2 ht2 hm2 hr0 hr1 HNW HXM HPL H8 HE82
  go_wp2_with fail
  refine HNU.out.mono ?_
  rintro r V6 ⟨rfl,rfl⟩
  go_wp2
  go_ret
  exact ⟨rfl,HE5.out⟩
 obtain rfl:=hr0 hf
 obtain ⟨hs,hW,hfly,he,hmo,hnw⟩:=hsay.2 hf
 subst hmo
 have hx2:fu (dm M.e M.s M.D M.rs M.up).2 k=x:=by rw [hnw k];exact HXM.out.1
 have HQ:Hid (aa W0 V5 t2 (dm M.e M.s M.D M.rs M.up).2 p2∧(dm M.e M.s M.D M.rs M.up).2.s=M.s∧(dm M.e M.s M.D M.rs M.up).2.W=.map []∧(dm M.e M.s M.D M.rs M.up).2.fly=[]∧(dm M.e M.s M.D M.rs M.up).2.e=M.e+1∧fu (dm M.e M.s M.D M.rs M.up).2 k=x):=⟨hT2,hs,hW,hfly,he,hx2⟩
 have HOLD:Hid (At V5 t (p.tv M) 107∧KpAt V5 p.k p.b M.e M.s p.a p.c):=⟨hm2.at HPL.out.tg.hd (fun f=>by have e:=HPL.out.tg.cK t (.inl f);rw [HPL.out.tg.cT] at e;cases e),HPL.out.tg.kk.kp.moved hm2 HPL.out.tg.kk.ap (fun q hq h0=>(HPL.out.tg.kk.lr q hq h0).1)⟩
 have H85:Hid (G.At V5 b8 x.vs 44):=hm2.at H8.out.1 (fun f=>H8.out.2 (by show p.col b8≠0;rw [HPL.out.tg.cK b8 (.inl f)];decide))
 generalize (dm M.e M.s M.D M.rs M.up).2=M2 at *
 clear hsay hs hW hfly he hx2 hnw hf hT2 hb2 ht2 hm2 hr0 hr1 HNW HXM HPL H8 HE82
 go_wp2_with fail
 refine (aa8 HQ.out.1 k HK8.out).mono ?_
 rintro r V6 ⟨rfl,b6⟩
 rw [HQ.out.2.2.2.2.2]
 obtain ⟨V7,hst,A12,b7⟩:=newCel x V6
 have HST:Hid ((Instr.storeAt 44 (.pointer (some ⟨V6.heap.size,0,.none⟩)) (.agg #[.int .i64 x.e,.int .i64 x.n,.string x.d])).run Tryz.prog (V6.alloc (.cells #[.int .i64 0,.int .i64 0,.string ⟨#[]⟩] 44))=.ok () V7):=hst
 obtain ⟨b12,hb12⟩:∃ b12,V6.heap.size=b12:=⟨_,rfl⟩
 have HB12:Hid (V6.heap.size=b12):=hb12
 have H12:Hid (G.At V7 b12 x.vs 44∧G.At V7 b8 x.vs 44):=⟨by rw [←hb12];exact A12,(H85.out.later b6 H85.out.lt).later b7 (by have:=H85.out.lt;have:=b6.size;omega)⟩
 replace HOLD:Hid (At V7 t (p.tv M) 107∧KpAt V7 p.k p.b M.e M.s p.a p.c):=⟨(HOLD.out.1.later b6 HOLD.out.1.lt).later b7 (by have:=HOLD.out.1.lt;have:=b6.size;omega),(HOLD.out.2.later b6).later b7⟩
 replace HQ:Hid (aa W0 V7 t2 M2 p2∧M2.s=M.s∧M2.W=.map []∧M2.fly=[]∧M2.e=M.e+1):=⟨(HQ.out.1.later b6).later b7,HQ.out.2.1,HQ.out.2.2.1,HQ.out.2.2.2.1,HQ.out.2.2.2.2.1⟩
 generalize jr M2=mq at *
 clear hst A12 b6 b7 hb12 H85 HE5
 go_upto_region 12 with (with_reducible refine cu HST.out rfl rfl ?_)
 clear HST
 rw [HB12.out]
 clear HB12
 go_wp2_with fail
 refine HQ.out.1.st.mono ?_
 rintro r V8 ⟨a1,c1,rfl,r1,_,b8'⟩
 have HR1:Hid (Go.Proofs.YtpkhdihoijkamaaGreatDoor.Row V8 a1 M.s.l.length M.s.l):=by have:=r1.row;rw [HQ.out.2.1] at this;exact this
 rw [HQ.out.2.1]
 replace H12:Hid (G.At V8 b12 x.vs 44∧G.At V8 b8 x.vs 44):=⟨H12.out.1.later b8' H12.out.1.lt,H12.out.2.later b8' H12.out.2.lt⟩
 replace HOLD:Hid (At V8 t (p.tv M) 107∧KpAt V8 p.k p.b M.e M.s p.a p.c):=⟨HOLD.out.1.later b8' HOLD.out.1.lt,HOLD.out.2.later b8'⟩
 replace HQ:Hid (aa W0 V8 t2 M2 p2∧M2.W=.map []∧M2.fly=[]∧M2.e=M.e+1):=⟨HQ.out.1.later b8',HQ.out.2.2.1,HQ.out.2.2.2.1,HQ.out.2.2.2.2⟩
 clear r1 b8'
 go_wp2_with fail
 refine (stateT_any HOLD.out.1 HOLD.out.2).mono ?_
 rintro r V9 ⟨a2,c2,rfl,r2,_,b9'⟩
 have HSS:Hid (Calls Tryz.prog 33 #[.agg (M.s.vs a1 c1).toArray,.agg (M.s.vs a2 c2).toArray] V9 fun r w'=>r=.returned (.bool true)∧Below V9.heap.size V9 w'):=Go.Proofs.YtpkhdihoijkamaaGreatDoor.abk M.s.g M.s.t M.s.hd a1 a2 M.s.l.length M.s.l.length c1 c2 M.s.y M.s.l V9 (HR1.out.later b9') r2
 replace H12:Hid (G.At V9 b12 x.vs 44∧G.At V9 b8 x.vs 44):=⟨H12.out.1.later b9' H12.out.1.lt,H12.out.2.later b9' H12.out.2.lt⟩
 replace HOLD:Hid (At V9 t (p.tv M) 107∧KpAt V9 p.k p.b M.e M.s p.a p.c):=⟨HOLD.out.1.later b9' HOLD.out.1.lt,HOLD.out.2.later b9'⟩
 replace HQ:Hid (aa W0 V9 t2 M2 p2∧M2.W=.map []∧M2.fly=[]∧M2.e=M.e+1):=⟨HQ.out.1.later b9',HQ.out.2⟩
 clear r2 b9' HR1
 go_wp2_with fail
 refine HSS.out.mono ?_
 rintro r VA ⟨rfl,bA⟩
 replace H12:Hid (G.At VA b12 x.vs 44∧G.At VA b8 x.vs 44):=⟨H12.out.1.later bA H12.out.1.lt,H12.out.2.later bA H12.out.2.lt⟩
 replace HOLD:Hid (At VA t (p.tv M) 107∧KpAt VA p.k p.b M.e M.s p.a p.c):=⟨HOLD.out.1.later bA HOLD.out.1.lt,HOLD.out.2.later bA⟩
 replace HQ:Hid (aa W0 VA t2 M2 p2∧M2.W=.map []∧M2.fly=[]∧M2.e=M.e+1):=⟨HQ.out.1.later bA,HQ.out.2⟩
 clear bA HSS
 go_wp2_with fail
 refine HQ.out.1.ep.mono ?_
 rintro r VB ⟨rfl,rfl⟩
 rw [HQ.out.2.2.2]
 go_wp2_with fail
 refine (epochT_any HOLD.out.1 HOLD.out.2).mono ?_
 rintro r VB ⟨rfl,rfl⟩
 have hlt:M.e<M.e+1:=by omega
 clear HOLD
 go_wp2_with fail
 refine (adm HQ.out.1 HQ.out.2.1).mono ?_
 rintro r VC ⟨rfl,bC⟩
 replace H12:Hid (G.At VC b12 x.vs 44∧G.At VC b8 x.vs 44):=⟨H12.out.1.later bC H12.out.1.lt,H12.out.2.later bC H12.out.2.lt⟩
 replace HQ:Hid (aa W0 VC t2 M2 p2∧M2.fly=[]):=⟨HQ.out.1.later bC,HQ.out.2.2.1⟩
 clear bC hlt
 go_wp2_with fail
 refine (aaj HQ.out.1 (by rw [HQ.out.2];decide)).mono ?_
 rintro r VD ⟨fv,rfl,ho,_,bD⟩
 replace H12:Hid (G.At VD b12 x.vs 44∧G.At VD b8 x.vs 44):=⟨H12.out.1.later bD H12.out.1.lt,H12.out.2.later bD H12.out.2.lt⟩
 have HE:Hid (Below w.heap.size w VD):=HB0.out.trans ((HQ.out.1.later bD).bw.mono HB0.out.size)
 obtain ⟨fa,fc,hfv⟩:=ho.form
 rw [HQ.out.2] at hfv
 replace hfv:fv=.slice fa 0 fc:=hfv
 subst hfv
 have HLa:Hid ((Instr.loadAt 44 (.pointer (some ⟨b12,0,.none⟩))).run Tryz.prog VD=.ok (.agg #[.int .i64 x.e,.int .i64 x.n,.string x.d]) VD):=G.p8 H12.out.1.whole
 have HLb:Hid ((Instr.loadAt 44 (.pointer (some ⟨b8,0,.none⟩))).run Tryz.prog VD=.ok (.agg #[.int .i64 x.e,.int .i64 x.n,.string x.d]) VD):=G.p8 H12.out.2.whole
 clear ho bD HQ H12
 have heql:=eql_cel x
 go_wp2_with (first|with_reducible refine ak HLa.out rfl rfl ?_|with_reducible refine ak HLb.out rfl rfl ?_)
 go_ret
 exact ⟨rfl,HE.out⟩
end Go.Proofs.YtpkhdihoijkamaaGreatDoor.U
