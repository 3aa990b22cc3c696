/- Several texts of this seat in one: UPow. No statement of the seat is proved here. -/
import Derived.Test.YtpkhdihoijkamaaGreatDoorWT
import Derived.Test.YtpkhdihoijkamaaGreatDoorZA46
import Derived.Test.YtpkhdihoijkamaaGreatDoorZA12
namespace Go.Proofs.YtpkhdihoijkamaaGreatDoor.U
open Go.ChangeShapes Go.WideShapes Go.ChangeAt Go.RowKit Go.Deep Go.Maps
open Go.Proofs.YtpkhdihoijkamaaGreatDoor.D
def rdA (who:Int) (k:Nat):CmD:=⟨7,who,0,0,0,(k:Int),false,⟨#[]⟩,⟨#[]⟩⟩
theorem rdA_f {q k:Nat} (h4:q<4) (hk:k<8):(rdA ((q:Int)+1) k).f=0:=by
 match q,h4,k,hk with
 | 0,_,0,_=>(show _=_;kernel_rfl)
 | 0,_,1,_=>(show _=_;kernel_rfl)
 | 0,_,2,_=>(show _=_;kernel_rfl)
 | 0,_,3,_=>(show _=_;kernel_rfl)
 | 0,_,4,_=>(show _=_;kernel_rfl)
 | 0,_,5,_=>(show _=_;kernel_rfl)
 | 0,_,6,_=>(show _=_;kernel_rfl)
 | 0,_,7,_=>(show _=_;kernel_rfl)
 | 1,_,0,_=>(show _=_;kernel_rfl)
 | 1,_,1,_=>(show _=_;kernel_rfl)
 | 1,_,2,_=>(show _=_;kernel_rfl)
 | 1,_,3,_=>(show _=_;kernel_rfl)
 | 1,_,4,_=>(show _=_;kernel_rfl)
 | 1,_,5,_=>(show _=_;kernel_rfl)
 | 1,_,6,_=>(show _=_;kernel_rfl)
 | 1,_,7,_=>(show _=_;kernel_rfl)
 | 2,_,0,_=>(show _=_;kernel_rfl)
 | 2,_,1,_=>(show _=_;kernel_rfl)
 | 2,_,2,_=>(show _=_;kernel_rfl)
 | 2,_,3,_=>(show _=_;kernel_rfl)
 | 2,_,4,_=>(show _=_;kernel_rfl)
 | 2,_,5,_=>(show _=_;kernel_rfl)
 | 2,_,6,_=>(show _=_;kernel_rfl)
 | 2,_,7,_=>(show _=_;kernel_rfl)
 | 3,_,0,_=>(show _=_;kernel_rfl)
 | 3,_,1,_=>(show _=_;kernel_rfl)
 | 3,_,2,_=>(show _=_;kernel_rfl)
 | 3,_,3,_=>(show _=_;kernel_rfl)
 | 3,_,4,_=>(show _=_;kernel_rfl)
 | 3,_,5,_=>(show _=_;kernel_rfl)
 | 3,_,6,_=>(show _=_;kernel_rfl)
 | 3,_,7,_=>(show _=_;kernel_rfl)
structure InP (w0 wr:World) (t:Nat) (M:TM) (p:TP) (n b9:Nat) (x:G.Cel) (k q:Nat):Prop where
 pl:Plain w0 wr t M p n
 A9:G.At wr b9 x.vs 44
 o9:¬p.F b9
 nw:fu M k=x
 tl:∀ j,q≤j→j<4→M.L j=[4]
theorem InP.later {w0 wr wx:World} {t:Nat} {M:TM} {p:TP} {n b9:Nat} {x:G.Cel} {k q:Nat} (h:InP w0 wr t M p n b9 x k q) (hb:Below wr.heap.size wr wx):InP w0 wx t M p n b9 x k q :=
 ⟨⟨h.pl.tg.later hb,h.pl.ti,h.pl.al⟩,h.A9.later hb h.A9.lt,h.o9,h.nw,h.tl⟩
theorem InP.beside {w0 wr wx:World} {t:Nat} {M:TM} {p:TP} {n b9 b:Nat} {x:G.Cel} {k q:Nat} (h:InP w0 wr t M p n b9 x k q) (hm:ae (Is b) (Is b) wr wx) (h1:b≠b9) (h2:¬p.F b) (h3:w0.heap.size≤b):InP w0 wx t M p n b9 x k q :=
 ⟨⟨h.pl.tg.beside hm (fun q e=>by rw [show q=b from e];exact h2) (fun q e=>by rw [show q=b from e];exact h3),h.pl.ti,h.pl.al⟩,hm.at h.A9 (fun e=>h1 (show b9=b from e).symm),h.o9,h.nw,h.tl⟩
theorem powS_yes {s:KS} (h:s.y=true):bf s={ s with g:=0 }:=by unfold bf;rw [if_pos h]
theorem powS_no {s:KS} (h:s.y=false):bf s=KS.none:=by unfold bf;rw [if_neg (by rw [h];simp)]
set_option maxRecDepth 100000 in
set_option maxHeartbeats 16000000 in
theorem topPower_walk (w:World) (hL:K.Laid w) (a:Option Addr) (n c:Nat) (l:List ig) (h:jh w a n l) (hop:jq l) (i:Int) (_:(Lit.int .i64 i).wf=true) :
 Calls Tryz.prog 8 #[.slice a n c,.int .i64 i] w fun r w'=>r=.returned (.bool true)∧Below w.heap.size w w':=by
 obtain rfl:=h.len
 have HL:Hid (K.Laid w):=hL
 have HA:Hid (jh w a l.length l∧jq l):=⟨h,hop⟩
 have HB0:Hid (Below w.heap.size w w):=Below.refl _ _
 clear h hop hL
 go_enter Tryz.func8,Tryz.ntmps8
 go_wp2_with fail
 refine (zy w HL.out).mono ?_
 rintro r W0 ⟨rfl,bw0⟩
 replace HB0:Hid (Below w.heap.size w W0):=HB0.out.trans (bw0.mono HB0.out.size)
 have HL0:Hid (K.Laid W0):=HL.out.later bw0
 have HA0:Hid (jh W0 a l.length l∧jq l):=⟨HA.out.1.later bw0,HA.out.2⟩
 clear bw0 HL HA
 go_wp2_with fail
 refine (aa5 W0 HL0.out a l.length c l HA0.out.1 HA0.out.2).mono ?_
 rintro r V ⟨bV,hres⟩
 rcases hres with ⟨hl,rfl⟩|⟨hl,t,p,D,rfl,hA⟩
 ·have HBW:Hid (Below w.heap.size w V):=HB0.out.trans (bV.mono HB0.out.size)
  clear bV hl HL0 HA0 HB0
  go_wp2
  go_ret
  exact ⟨rfl,HBW.out⟩
 have hn80:l.length≤80:=by simp [om] at hl;omega
 have HPL:Hid (Plain W0 V t (gp (dh D) l) p l.length):=hA.plain
 have HE82:Hid ((gp (dh D) l).e<1000000):=by
  have h1:=playL_e l (openAll hA.s0)
  have h2:(dh D).e=2:=rfl
  show (gp (dh D) l).e<1000000
  omega
 have HN:Hid (l.length≤80):=hn80
 generalize gp (dh D) l=M at *
 clear bV hl hn80 HA0
 by_cases h0:i<0
 ·have HBW:Hid (Below w.heap.size w V):=HB0.out.trans (HPL.out.tg.bw.mono HB0.out.size)
  go_wp2
  go_ret
  exact ⟨rfl,HBW.out⟩
 by_cases h7:7<i
 ·have HBW:Hid (Below w.heap.size w V):=HB0.out.trans (HPL.out.tg.bw.mono HB0.out.size)
  go_wp2
  go_ret
  exact ⟨rfl,HBW.out⟩
 obtain ⟨k,rfl⟩:∃ k:Nat,i=k:=⟨i.toNat,by omega⟩
 have HK8:Hid (k<8):=by show k<8;omega
 go_wp2_with fail
 clear h0 h7
 refine HPL.out.tg.st.mono ?_
 rintro r V2 ⟨a1,c1,rfl,r1,_,b2⟩
 obtain ⟨V3,hst,A8,b3'⟩:=newS M.s a1 c1 V2
 have HST:Hid ((Instr.storeAt 36 (.pointer (some ⟨V2.heap.size,0,.none⟩)) (.agg (M.s.vs a1 c1).toArray)).run Tryz.prog (V2.alloc (.cells #[.int .i64 0,.slice .none 0 0,.int .i64 0,.int .i64 0,.bool false] 36))=.ok () V3):=hst
 have h8:¬p.F V2.heap.size:=fun f=>by have:=HPL.out.tg.foot _ f;have:=b2.size;omega
 obtain ⟨b8,hb8⟩:∃ b8,V2.heap.size=b8:=⟨_,rfl⟩
 have H8:Hid (At V3 b8 (M.s.vs a1 c1) 36∧iy V3 p a1 M.s∧¬p.F b8):=⟨by rw [←hb8];exact A8,r1.later b3',by rw [←hb8];exact h8⟩
 replace HPL:Hid (Plain W0 V3 t M p l.length):=⟨(HPL.out.tg.later b2).later b3',HPL.out.ti,HPL.out.al⟩
 have HB8:Hid (V2.heap.size=b8):=hb8
 clear hst A8 b3' r1 b2 h8 hb8
 go_upto_region 8 with (with_reducible refine cu HST.out rfl rfl ?_)
 clear HST
 rw [HB8.out]
 clear HB8
 go_wp2_with fail
 refine (aa8 HPL.out.tg k HK8.out).mono ?_
 rintro r V4 ⟨rfl,b4⟩
 obtain ⟨x,hx⟩:∃ x,fu M k=x:=⟨_,rfl⟩
 obtain ⟨mo,hmo⟩:∃ mo,jr M=mo:=⟨_,rfl⟩
 rw [hx,hmo]
 obtain ⟨V5,hst,A9,b5⟩:=newCel x V4
 have HST:Hid ((Instr.storeAt 44 (.pointer (some ⟨V4.heap.size,0,.none⟩)) (.agg #[.int .i64 x.e,.int .i64 x.n,.string x.d])).run Tryz.prog (V4.alloc (.cells #[.int .i64 0,.int .i64 0,.string ⟨#[]⟩] 44))=.ok () V5):=hst
 obtain ⟨b9,hb9⟩:∃ b9,V4.heap.size=b9:=⟨_,rfl⟩
 have h9:¬p.F b9:=fun f=>by have:=HPL.out.tg.foot _ f;have:=b4.size;omega
 have H9:Hid (G.At V5 b9 x.vs 44∧¬p.F b9):=⟨by rw [←hb9];exact A9,h9⟩
 replace H8:Hid (At V5 b8 (M.s.vs a1 c1) 36∧iy V5 p a1 M.s∧¬p.F b8):=⟨(H8.out.1.later b4 H8.out.1.lt).later b5 (by have:=H8.out.1.lt;have:=b4.size;omega),(H8.out.2.1.later b4).later b5,H8.out.2.2⟩
 replace HPL:Hid (Plain W0 V5 t M p l.length):=⟨(HPL.out.tg.later b4).later b5,HPL.out.ti,HPL.out.al⟩
 have HB9:Hid (V4.heap.size=b9):=hb9
 have HXM:Hid (fu M k=x∧jr M=mo):=⟨hx,hmo⟩
 clear hst A9 b4 b5 h9 hb9 hx hmo
 go_upto_region 9 with (with_reducible refine cu HST.out rfl rfl ?_)
 clear HST
 rw [HB9.out]
 clear HB9
 go_wp2_with fail
 refine (tpower_any HPL.out.tg HL0.out).mono ?_
 rintro r V6 ⟨rfl,p',hT,_,_,hm⟩
 have hsay:=power_says HPL.out.al HE82.out
 rw [HXM.out.2] at hsay
 have HT6:Hid (aa W0 V6 t (iq M).2 p'):=hT
 have HTI:Hid (TI (iq M).2 l.length):=HPL.out.ti.power
 have H86:Hid (At V6 b8 (M.s.vs a1 c1) 36∧Go.Proofs.YtpkhdihoijkamaaGreatDoor.Row V6 a1 M.s.l.length M.s.l):=⟨hm.at H8.out.1 H8.out.2.2,(H8.out.2.1.moved hm).row⟩
 have H96:Hid (G.At V6 b9 x.vs 44∧¬p'.F b9):=⟨hm.at H9.out.1 H9.out.2,hm.not H9.out.1.lt H9.out.2⟩
 have HAL:Hid ((iq M).1=0→All (iq M).2):=fun h=>⟨HPL.out.al.si.power HPL.out.al.gi.ok,HPL.out.al.gi.steps (gs_power (S:=fun _=>True) HPL.out.al.si HPL.out.al.gi.ok),fun j hj y hy=>by
  have:y ∈ Go.Proofs.YtpkhdihoijkamaaGreatDoor.xm j:=by rw [←(hsay.2 h).2.2.1];exact hy
  simp [Go.Proofs.YtpkhdihoijkamaaGreatDoor.xm] at this
  omega,HPL.out.al.ci.steps (gs_power (S:=fun _=>True) HPL.out.al.si HPL.out.al.gi.ok) HPL.out.al.gi⟩
 by_cases hf:(iq M).1=0
 case neg =>
  obtain ⟨h1,h2⟩:=hsay.1 hf
  subst h1
  rw [ut hf]
  have HSS:Hid ((iq M).2.s=M.s):=h2
  have HQ:Hid (aa W0 V6 t (iq M).2 p'∧At V6 b8 (M.s.vs a1 c1) 36∧Go.Proofs.YtpkhdihoijkamaaGreatDoor.Row V6 a1 M.s.l.length M.s.l):=⟨HT6.out,H86.out.1,H86.out.2⟩
  generalize (iq M).1=f9 at *
  generalize (iq M).2=M2 at *
  generalize M.s=s at *
  clear hsay h2 hT hm H8 H9 HT6 HTI H86 H96 HAL HXM HPL HE82
  go_upto_region 10 with fail
  refine ql (S:=fun w'=>At w' b8 (s.vs a1 c1) 36) (by kernel_rfl) ?_
  intro Y hV bV sV
  replace HQ:Hid (aa W0 Y t M2 p'∧At Y b8 (s.vs a1 c1) 36∧Go.Proofs.YtpkhdihoijkamaaGreatDoor.Row Y a1 s.l.length s.l):=⟨HQ.out.1.later bV,HQ.out.2.1.later bV HQ.out.2.1.lt,HQ.out.2.2.later bV⟩
  have HS:Hid (At Y b8 (s.vs a1 c1) 36):=HQ.out.2.1
  clear hV bV sV
  refine wpG 0 (.bool false) HS.out ?_
  refine wpG 1 (.bool true) HS.out ?_
  refine wpG 2 (.bool true) HS.out ?_
  (try simp [Act.put])
  refine wpG 3 (.pointer (some ⟨t,0,.none⟩)) HS.out ?_
  refine wpT 5 (.agg (s.vs a1 c1).toArray) (.inl ⟨rfl,fun w' hw'=>?_⟩) HS.out ?_
  ·exact jc (jk hw') rfl
  (try simp [Act.put])
  refine wpA 4 ?_
  refine Go.Proofs.YtpkhdihoijkamaaGreatDoor.D.aa3 rfl rfl ?_
  go_wp2_with fail
  refine HQ.out.1.st.mono ?_
  rintro r Y1 ⟨a2,c2,rfl,r2,_,b2⟩
  replace HQ:Hid (aa W0 Y1 t M2 p'∧At Y1 b8 (s.vs a1 c1) 36∧Go.Proofs.YtpkhdihoijkamaaGreatDoor.Row Y1 a1 s.l.length s.l):=⟨HQ.out.1.later b2,HQ.out.2.1.later b2 HQ.out.2.1.lt,HQ.out.2.2.later b2⟩
  replace HS:Hid (At Y1 b8 (s.vs a1 c1) 36):=HQ.out.2.1
  have HR2:Hid (Go.Proofs.YtpkhdihoijkamaaGreatDoor.Row Y1 a2 s.l.length s.l):=by have:=r2.row;rw [HSS.out] at this;exact this
  rw [HSS.out]
  clear r2 b2
  refine ⟨HS.out,?_⟩
  (try simp [Act.put])
  refine wpA 6 ?_
  refine Go.Proofs.YtpkhdihoijkamaaGreatDoor.D.aa3 rfl rfl ?_
  go_wp2_with fail
  refine (Go.Proofs.YtpkhdihoijkamaaGreatDoor.abk s.g s.t s.hd a2 a1 s.l.length s.l.length c2 c1 s.y s.l Y1 HR2.out HQ.out.2.2).mono ?_
  rintro r Y2 ⟨rfl,b2⟩
  replace HQ:Hid (aa W0 Y2 t M2 p'∧At Y2 b8 (s.vs a1 c1) 36∧Go.Proofs.YtpkhdihoijkamaaGreatDoor.Row Y2 a1 s.l.length s.l):=⟨HQ.out.1.later b2,HQ.out.2.1.later b2 HQ.out.2.1.lt,HQ.out.2.2.later b2⟩
  replace HS:Hid (At Y2 b8 (s.vs a1 c1) 36):=HQ.out.2.1
  clear b2 HR2
  refine ⟨HS.out,?_⟩
  (try simp [Act.put])
  refine wpG 7 (.bool true) HS.out ?_
  refine wpG 8 (.bool true) HS.out ?_
  (try simp [Act.put])
  refine wpZ ?_
  (try simp [Act.put])
  have HE:Hid (Below w.heap.size w Y2):=HB0.out.trans (HQ.out.1.bw.mono HB0.out.size)
  go_wp2
  go_ret
  exact ⟨rfl,HE.out⟩
 obtain ⟨hs,hW,hLL,hmo,hnw⟩:=hsay.2 hf
 subst hmo
 have hx6:fu (iq M).2 k=x:=by rw [hnw k];exact HXM.out.1
 have HQ:Hid (InP W0 V6 t (iq M).2 p' l.length b9 x k 0∧(iq M).2.W=.map []∧(iq M).2.s=bf M.s):=⟨⟨⟨HT6.out,HTI.out,HAL.out hf⟩,H96.out.1,H96.out.2,hx6,fun j _ _=>by rw [hLL];rfl⟩,hW,hs⟩
 rw [hf,show ai 0=.nilIface from rfl]
 generalize (iq M).2=M2 at *
 clear hsay hs hW hLL hnw hx6 hT hm hf H8 H9 HT6 HTI H96 HAL HXM HPL HE82
 go_wp2_with fail
 refine HQ.out.1.pl.tg.st.mono ?_
 rintro r V7 ⟨a2,c2,rfl,r2,_,b7⟩
 rw [HQ.out.2.2]
 obtain ⟨V8,hst,A11,b8'⟩:=newS (bf M.s) a2 c2 V7
 have HST:Hid ((Instr.storeAt 36 (.pointer (some ⟨V7.heap.size,0,.none⟩)) (.agg ((bf M.s).vs a2 c2).toArray)).run Tryz.prog (V7.alloc (.cells #[.int .i64 0,.slice .none 0 0,.int .i64 0,.int .i64 0,.bool false] 36))=.ok () V8):=hst
 obtain ⟨b11,hb11⟩:∃ b11,V7.heap.size=b11:=⟨_,rfl⟩
 have HB11:Hid (V7.heap.size=b11):=hb11
 have H11:Hid (At V8 b11 ((bf M.s).vs a2 c2) 36∧Go.Proofs.YtpkhdihoijkamaaGreatDoor.Row V8 a2 (bf M.s).l.length (bf M.s).l):=⟨by rw [←hb11];exact A11,by have:=r2.row;rw [HQ.out.2.2] at this;exact this.later b8'⟩
 have H88:Hid (At V8 b8 (M.s.vs a1 c1) 36∧Go.Proofs.YtpkhdihoijkamaaGreatDoor.Row V8 a1 M.s.l.length M.s.l):=⟨(H86.out.1.later b7 H86.out.1.lt).later b8' (by have:=H86.out.1.lt;have:=b7.size;omega),(H86.out.2.later b7).later b8'⟩
 replace HQ:Hid (InP W0 V8 t M2 p' l.length b9 x k 0∧M2.W=.map []):=⟨(HQ.out.1.later b7).later b8',HQ.out.2.1⟩
 clear hst A11 b7 b8' r2 hb11 H86
 go_upto_region 12 with (with_reducible refine cu HST.out rfl rfl ?_)
 clear HST
 rw [HB11.out]
 clear HB11
 have HL8:Hid ((Instr.loadAt 36 (.pointer (some ⟨b8,0,.none⟩))).run Tryz.prog V8=.ok (.agg (M.s.vs a1 c1).toArray) V8):=jk H88.out.1
 obtain ⟨V9,hst,A12,b9'⟩:=newS M.s a1 c1 V8
 have HST:Hid ((Instr.storeAt 36 (.pointer (some ⟨V8.heap.size,0,.none⟩)) (.agg (M.s.vs a1 c1).toArray)).run Tryz.prog (V8.alloc (.cells #[.int .i64 0,.slice .none 0 0,.int .i64 0,.int .i64 0,.bool false] 36))=.ok () V9):=hst
 obtain ⟨b12,hb12⟩:∃ b12,V8.heap.size=b12:=⟨_,rfl⟩
 have HB12:Hid (V8.heap.size=b12):=hb12
 have h12:b12≠b8∧b12≠b11∧b12≠b9∧¬p'.F b12∧W0.heap.size≤b12:=⟨by have:=H88.out.1.lt;omega,by have:=H11.out.1.lt;omega,by have:=HQ.out.1.A9.lt;omega,fun f=>by have:=HQ.out.1.pl.tg.foot _ f;omega,by have:=HQ.out.1.pl.tg.bw.size;omega⟩
 have HRL:Hid ((∀ q,a1=some q→M.s.l.length≠0→q.block≠b12)∧(∀ q,a2=some q→(bf M.s).l.length≠0→q.block≠b12)):=⟨fun q e h0=>by have:=yo H88.out.2 h0 q e;omega,fun q e h0=>by have:=yo H11.out.2 h0 q e;omega⟩
 have H12:Hid (At V9 b12 (M.s.vs a1 c1) 36):=by rw [←hb12];exact A12
 replace H11:Hid (At V9 b11 ((bf M.s).vs a2 c2) 36∧Go.Proofs.YtpkhdihoijkamaaGreatDoor.Row V9 a2 (bf M.s).l.length (bf M.s).l):=⟨H11.out.1.later b9' H11.out.1.lt,H11.out.2.later b9'⟩
 replace H88:Hid (At V9 b8 (M.s.vs a1 c1) 36∧Go.Proofs.YtpkhdihoijkamaaGreatDoor.Row V9 a1 M.s.l.length M.s.l):=⟨H88.out.1.later b9' H88.out.1.lt,H88.out.2.later b9'⟩
 replace HQ:Hid (InP W0 V9 t M2 p' l.length b9 x k 0∧M2.W=.map []):=⟨HQ.out.1.later b9',HQ.out.2⟩
 have HNE:Hid (b12≠b8∧b12≠b11∧b12≠b9∧¬p'.F b12∧W0.heap.size≤b12):=h12
 clear hst A12 b9' hb12 h12
 go_upto_region 13 with (first|with_reducible refine ak HL8.out rfl rfl ?_|with_reducible refine cu HST.out rfl rfl ?_)
 clear HST HL8
 rw [HB12.out]
 clear HB12
 have c80:V9.cell? ⟨b8,4,.none⟩=some (.bool M.s.y):=H88.out.1.cell 4
 have c120:V9.cell? ⟨b12,0,.none⟩=some (.int .i64 M.s.g):=H12.out.cell 0
 have f120:V9.frozen? ⟨b12,0,.none⟩=false:=(H12.out.there 0 1 (by simp [KS.vs]) 0 (by decide)).2
 obtain ⟨Y,hY⟩:∃ Y,V9.setCell ⟨b12,0,.none⟩ (.int .i64 0)=Y:=⟨_,rfl⟩
 have hm12:ae (Is b12) (Is b12) V9 Y:=by rw [←hY];exact (ae.refl _ _).set (show Is b12 b12 from rfl) 0 _
 have H12Y:Hid (At Y b12 (({ M.s with g:=0 }:KS).vs a1 c1) 36):=by rw [←hY];exact H12.out.setCell_same 0 (.int .i64 0)
 have HQY:Hid (InP W0 Y t M2 p' l.length b9 x k 0∧M2.W=.map []∧At Y b11 ((bf M.s).vs a2 c2) 36∧Go.Proofs.YtpkhdihoijkamaaGreatDoor.Row Y a2 (bf M.s).l.length (bf M.s).l):=⟨HQ.out.1.beside hm12 HNE.out.2.2.1 HNE.out.2.2.2.1 HNE.out.2.2.2.2,HQ.out.2,hm12.at H11.out.1 (fun e=>HNE.out.2.1 (show b11=b12 from e).symm),xc H11.out.2 hm12 (fun q e h0 f=>HRL.out.2 q e h0 (show q.block=b12 from f))⟩
 have HRY:Hid (Go.Proofs.YtpkhdihoijkamaaGreatDoor.Row Y a1 M.s.l.length M.s.l):=xc H88.out.2 hm12 (fun q e h0 f=>HRL.out.1 q e h0 (show q.block=b12 from f))
 have c84:Y.cell? ⟨b8,4,.none⟩=some (.bool M.s.y):=(hm12.at H88.out.1 (fun e=>HNE.out.1 (show b8=b12 from e).symm)).cell 4
 clear hm12 H88 H11 H12 HQ HRL c80
 go_upto_region 14 with fail
 clear c120 f120 hY
 cases hy:M.s.y
 case true =>
  rw [hy] at c84
  have hps:=powS_yes hy
  go_upto_region 16 with fail
  have HF16:Hid (InP W0 Y t M2 p' l.length b9 x k 0∧M2.W=.map []∧At Y b11 ((bf M.s).vs a2 c2) 36∧Go.Proofs.YtpkhdihoijkamaaGreatDoor.Row Y a2 (bf M.s).l.length (bf M.s).l∧∃ a3 c3,At Y b12 ((bf M.s).vs a3 c3) 36∧Go.Proofs.YtpkhdihoijkamaaGreatDoor.Row Y a3 (bf M.s).l.length (bf M.s).l):=⟨HQY.out.1,HQY.out.2.1,HQY.out.2.2.1,HQY.out.2.2.2,a1,c1,by rw [hps];exact H12Y.out,by rw [hps];exact HRY.out⟩
  clear hps hy c84 H12Y HRY HQY HNE
  obtain ⟨a3,c3,HW3⟩:=HF16.out.2.2.2.2
  have HLa:Hid ((Instr.loadAt 36 (.pointer (some ⟨b11,0,.none⟩))).run Tryz.prog Y=.ok (.agg ((bf M.s).vs a2 c2).toArray) Y):=jk HF16.out.2.2.1
  have HLb:Hid ((Instr.loadAt 36 (.pointer (some ⟨b12,0,.none⟩))).run Tryz.prog Y=.ok (.agg ((bf M.s).vs a3 c3).toArray) Y):=jk HW3.1
  have HSS:Hid (Calls Tryz.prog 33 #[.agg ((bf M.s).vs a2 c2).toArray,.agg ((bf M.s).vs a3 c3).toArray] Y fun r w'=>r=.returned (.bool true)∧Below Y.heap.size Y w'):=Go.Proofs.YtpkhdihoijkamaaGreatDoor.abk (bf M.s).g (bf M.s).t (bf M.s).hd a2 a3 (bf M.s).l.length (bf M.s).l.length c2 c3 (bf M.s).y (bf M.s).l Y HF16.out.2.2.2.1 HW3.2
  have HQA:Hid (InP W0 Y t M2 p' l.length b9 x k 0∧M2.W=.map []):=⟨HF16.out.1,HF16.out.2.1⟩
  generalize bf M.s=s at *
  clear HF16 HW3
  go_wp2_with (first|with_reducible refine ak HLa.out rfl rfl ?_|with_reducible refine ak HLb.out rfl rfl ?_)
  refine HSS.out.mono ?_
  rintro r X10 ⟨rfl,b10'⟩
  replace HQA:Hid (InP W0 X10 t M2 p' l.length b9 x k 0∧M2.W=.map []):=⟨HQA.out.1.later b10',HQA.out.2⟩
  clear b10' HLa HLb HSS
  go_wp2_with fail
  refine (adm HQA.out.1.pl.tg HQA.out.2).mono ?_
  rintro r X11 ⟨rfl,b11'⟩
  have HQB:Hid (InP W0 X11 t M2 p' l.length b9 x k 0):=HQA.out.1.later b11'
  clear b11' HQA
  go_upto_region 18 with fail
  go_wp2
  go_loopw [13] (fun v wr=>∃ (q:Nat) (Mq:TM) (pq:TP),v=.int .i64 ((q:Int)+1)∧q≤4∧InP W0 wr t Mq pq (l.length+q) b9 x k q) (fun v _=>6 - (intOf v).toNat)
  case atStart=>exact ⟨0,M2,p',rfl,by omega,HQB.out⟩
  case round =>
   clear HQB
   obtain ⟨q,Mq,pq,rfl,h4,hq⟩:=hrel
   have HQ:Hid (InP W0 wr t Mq pq (l.length+q) b9 x k q):=hq
   clear hq
   by_cases hq4:q<4
   ·have hle:(q:Int)+1≤4:=by omega
    have hf:=rdA_f hq4 HK8.out
    have hj:(rdA ((q:Int)+1) k).j=q:=by show (((q:Int)+1).toNat - 1)=q;omega
    have hh:jf (Mq.L q)=4:=by rw [HQ.out.tl q (Nat.le_refl _) hq4];rfl
    have ha:av Mq (rdA ((q:Int)+1) k)=(⟨ll,0,4,0⟩,iw Mq (rdA ((q:Int)+1) k)):=by
     unfold av;rw [if_pos hf,if_neg (by rw [hj,hh];decide),hj,hh]
    have HAS:Hid (Calls Tryz.prog 36 #[.pointer (some ⟨t,0,.none⟩),.agg #[.int .i64 7,.int .i64 ((q:Int)+1),.int .i64 0,.int .i64 0,.int .i64 0,.int .i64 (k:Int),.bool false,.string ⟨#[]⟩,.string ⟨#[]⟩]] wr fun r w'=>r=.returned (.tuple #[.string ll,.int .i64 0,.int .i64 4,.nilIface])∧∃ p2,aa W0 w' t (iw Mq (rdA ((q:Int)+1) k)) p2∧ae pq.F p2.F wr w'):=by
     have:=zu HQ.out.pl.tg HL0.out HQ.out.pl.ti (by have:=HN.out;omega) (rdA ((q:Int)+1) k) (by show (Lit.int .i64 7).wf=true;decide) (by show (⟨#[]⟩:ByteArray).size≤9223372036854775807;decide) (by show (⟨#[]⟩:ByteArray).size≤9223372036854775807;decide)
     rw [ha] at this
     exact this.mono fun r w' ⟨h1,p2,h2,_,_,h3⟩=>⟨h1,p2,h2,h3⟩
    have HTA:Hid (TI (iw Mq (rdA ((q:Int)+1) k)) (l.length+(q+1))∧All (iw Mq (rdA ((q:Int)+1) k))∧∀ j,q+1≤j→j<4→(iw Mq (rdA ((q:Int)+1) k)).L j=[4]):=by
     have h1:=HQ.out.pl.ti.ask (HQ.out.pl.tg.mp.tidy x9) (rdA ((q:Int)+1) k)
     have h2:=HQ.out.pl.al.av (rdA ((q:Int)+1) k)
     rw [ha] at h1 h2
     refine ⟨h1,h2,fun j h3 h5=>?_⟩
     show upd Mq.L (rdA ((q:Int)+1) k).j _ j=_
     unfold upd
     rw [hj,if_neg (by omega)]
     exact HQ.out.tl j (by omega) h5
    have HQ4:Hid (q<4):=hq4
    clear hf hj hh ha
    go_wp2_with fail
    refine HAS.out.mono ?_
    rintro r X2 ⟨rfl,p2,hT,hm⟩
    have HQ2:Hid (InP W0 X2 t (iw Mq (rdA ((q:Int)+1) k)) p2 (l.length+(q+1)) b9 x k (q+1)):=⟨⟨hT,HTA.out.1,HTA.out.2.1⟩,hm.at HQ.out.A9 HQ.out.o9,hm.not HQ.out.A9.lt HQ.out.o9,HQ.out.nw,HTA.out.2.2⟩
    generalize iw Mq (rdA ((q:Int)+1) k)=M9 at *
    clear hT hm HAS HTA HQ
    go_wp2
    exact ⟨⟨q+1,M9,p2,by go_num,by have:=HQ4.out;omega,HQ2.out⟩,by simp [intOf];have:=HQ4.out;omega⟩
   ·obtain rfl:q=4:=by omega
    have hkx:¬((4:Nat):Int)+1≤4:=by omega
    go_wp2_with fail
    refine (aa8 HQ.out.pl.tg k HK8.out).mono ?_
    rintro r X3 ⟨rfl,b3'⟩
    rw [HQ.out.nw]
    obtain ⟨X4,hst,A18,b4⟩:=newCel x X3
    have HST:Hid ((Instr.storeAt 44 (.pointer (some ⟨X3.heap.size,0,.none⟩)) (.agg #[.int .i64 x.e,.int .i64 x.n,.string x.d])).run Tryz.prog (X3.alloc (.cells #[.int .i64 0,.int .i64 0,.string ⟨#[]⟩] 44))=.ok () X4):=hst
    obtain ⟨b18,hb18⟩:∃ b18,X3.heap.size=b18:=⟨_,rfl⟩
    have HB18:Hid (X3.heap.size=b18):=hb18
    have HQ4:Hid (InP W0 X4 t Mq pq (l.length+4) b9 x k 4):=(HQ.out.later b3').later b4
    have HL18:Hid ((Instr.loadAt 44 (.pointer (some ⟨b18,0,.none⟩))).run Tryz.prog X4=.ok (.agg #[.int .i64 x.e,.int .i64 x.n,.string x.d]) X4):=by rw [←hb18];exact G.p8 A18.whole
    have HL9:Hid ((Instr.loadAt 44 (.pointer (some ⟨b9,0,.none⟩))).run Tryz.prog X4=.ok (.agg #[.int .i64 x.e,.int .i64 x.n,.string x.d]) X4):=G.p8 HQ4.out.A9.whole
    have HE:Hid (Below w.heap.size w X4):=HB0.out.trans (HQ4.out.pl.tg.bw.mono HB0.out.size)
    generalize jr Mq=mq at *
    clear hst A18 b3' b4 hb18 HQ HQ4
    go_upto_region 25 with (with_reducible refine cu HST.out rfl rfl ?_)
    clear HST
    rw [HB18.out]
    clear HB18
    have heql:=eql_cel x
    go_wp2_with (first|with_reducible refine ak HL18.out rfl rfl ?_|with_reducible refine ak HL9.out rfl rfl ?_)
    go_ret
    exact ⟨rfl,HE.out⟩
 case false =>
  rw [hy] at c84
  have hps:=powS_no hy
  obtain ⟨Y2,hst,A12,hm⟩:=putS KS.none .none 0 H12Y.out (by simp [KS.vs])
  have HST:Hid ((Instr.storeAt 36 (.pointer (some ⟨b12,0,.none⟩)) (.agg #[.int .i64 0,.slice .none 0 0,.int .i64 0,.int .i64 0,.bool false])).run Tryz.prog Y=.ok () Y2):=hst
  have HF16:Hid (InP W0 Y2 t M2 p' l.length b9 x k 0∧M2.W=.map []∧At Y2 b11 ((bf M.s).vs a2 c2) 36∧Go.Proofs.YtpkhdihoijkamaaGreatDoor.Row Y2 a2 (bf M.s).l.length (bf M.s).l∧∃ a3 c3,At Y2 b12 ((bf M.s).vs a3 c3) 36∧Go.Proofs.YtpkhdihoijkamaaGreatDoor.Row Y2 a3 (bf M.s).l.length (bf M.s).l):=⟨HQY.out.1.beside hm HNE.out.2.2.1 HNE.out.2.2.2.1 HNE.out.2.2.2.2,HQY.out.2.1,hm.at HQY.out.2.2.1 (fun e=>HNE.out.2.1 (show b11=b12 from e).symm),xc HQY.out.2.2.2 hm (fun q e h0 f=>by rw [hps] at h0;exact absurd rfl h0),.none,0,by rw [hps];exact A12,by rw [hps];exact (iy.none Y2 p').row⟩
  clear hst A12 hm hps hy H12Y HRY HQY HNE
  go_upto_region 16 with (with_reducible refine cu HST.out rfl rfl ?_)
  clear HST c84
  obtain ⟨Y,hYY⟩:∃ Z,Z=Y2:=⟨_,rfl⟩
  rw [←hYY] at HF16 ⊢
  clear hYY
  obtain ⟨a3,c3,HW3⟩:=HF16.out.2.2.2.2
  have HLa:Hid ((Instr.loadAt 36 (.pointer (some ⟨b11,0,.none⟩))).run Tryz.prog Y=.ok (.agg ((bf M.s).vs a2 c2).toArray) Y):=jk HF16.out.2.2.1
  have HLb:Hid ((Instr.loadAt 36 (.pointer (some ⟨b12,0,.none⟩))).run Tryz.prog Y=.ok (.agg ((bf M.s).vs a3 c3).toArray) Y):=jk HW3.1
  have HSS:Hid (Calls Tryz.prog 33 #[.agg ((bf M.s).vs a2 c2).toArray,.agg ((bf M.s).vs a3 c3).toArray] Y fun r w'=>r=.returned (.bool true)∧Below Y.heap.size Y w'):=Go.Proofs.YtpkhdihoijkamaaGreatDoor.abk (bf M.s).g (bf M.s).t (bf M.s).hd a2 a3 (bf M.s).l.length (bf M.s).l.length c2 c3 (bf M.s).y (bf M.s).l Y HF16.out.2.2.2.1 HW3.2
  have HQA:Hid (InP W0 Y t M2 p' l.length b9 x k 0∧M2.W=.map []):=⟨HF16.out.1,HF16.out.2.1⟩
  generalize bf M.s=s at *
  clear HF16 HW3
  go_wp2_with (first|with_reducible refine ak HLa.out rfl rfl ?_|with_reducible refine ak HLb.out rfl rfl ?_)
  refine HSS.out.mono ?_
  rintro r X10 ⟨rfl,b10'⟩
  replace HQA:Hid (InP W0 X10 t M2 p' l.length b9 x k 0∧M2.W=.map []):=⟨HQA.out.1.later b10',HQA.out.2⟩
  clear b10' HLa HLb HSS
  go_wp2_with fail
  refine (adm HQA.out.1.pl.tg HQA.out.2).mono ?_
  rintro r X11 ⟨rfl,b11'⟩
  have HQB:Hid (InP W0 X11 t M2 p' l.length b9 x k 0):=HQA.out.1.later b11'
  clear b11' HQA
  go_upto_region 18 with fail
  go_wp2
  go_loopw [13] (fun v wr=>∃ (q:Nat) (Mq:TM) (pq:TP),v=.int .i64 ((q:Int)+1)∧q≤4∧InP W0 wr t Mq pq (l.length+q) b9 x k q) (fun v _=>6 - (intOf v).toNat)
  case atStart=>exact ⟨0,M2,p',rfl,by omega,HQB.out⟩
  case round =>
   clear HQB
   obtain ⟨q,Mq,pq,rfl,h4,hq⟩:=hrel
   have HQ:Hid (InP W0 wr t Mq pq (l.length+q) b9 x k q):=hq
   clear hq
   by_cases hq4:q<4
   ·have hle:(q:Int)+1≤4:=by omega
    have hf:=rdA_f hq4 HK8.out
    have hj:(rdA ((q:Int)+1) k).j=q:=by show (((q:Int)+1).toNat - 1)=q;omega
    have hh:jf (Mq.L q)=4:=by rw [HQ.out.tl q (Nat.le_refl _) hq4];rfl
    have ha:av Mq (rdA ((q:Int)+1) k)=(⟨ll,0,4,0⟩,iw Mq (rdA ((q:Int)+1) k)):=by
     unfold av;rw [if_pos hf,if_neg (by rw [hj,hh];decide),hj,hh]
    have HAS:Hid (Calls Tryz.prog 36 #[.pointer (some ⟨t,0,.none⟩),.agg #[.int .i64 7,.int .i64 ((q:Int)+1),.int .i64 0,.int .i64 0,.int .i64 0,.int .i64 (k:Int),.bool false,.string ⟨#[]⟩,.string ⟨#[]⟩]] wr fun r w'=>r=.returned (.tuple #[.string ll,.int .i64 0,.int .i64 4,.nilIface])∧∃ p2,aa W0 w' t (iw Mq (rdA ((q:Int)+1) k)) p2∧ae pq.F p2.F wr w'):=by
     have:=zu HQ.out.pl.tg HL0.out HQ.out.pl.ti (by have:=HN.out;omega) (rdA ((q:Int)+1) k) (by show (Lit.int .i64 7).wf=true;decide) (by show (⟨#[]⟩:ByteArray).size≤9223372036854775807;decide) (by show (⟨#[]⟩:ByteArray).size≤9223372036854775807;decide)
     rw [ha] at this
     exact this.mono fun r w' ⟨h1,p2,h2,_,_,h3⟩=>⟨h1,p2,h2,h3⟩
    have HTA:Hid (TI (iw Mq (rdA ((q:Int)+1) k)) (l.length+(q+1))∧All (iw Mq (rdA ((q:Int)+1) k))∧∀ j,q+1≤j→j<4→(iw Mq (rdA ((q:Int)+1) k)).L j=[4]):=by
     have h1:=HQ.out.pl.ti.ask (HQ.out.pl.tg.mp.tidy x9) (rdA ((q:Int)+1) k)
     have h2:=HQ.out.pl.al.av (rdA ((q:Int)+1) k)
     rw [ha] at h1 h2
     refine ⟨h1,h2,fun j h3 h5=>?_⟩
     show upd Mq.L (rdA ((q:Int)+1) k).j _ j=_
     unfold upd
     rw [hj,if_neg (by omega)]
     exact HQ.out.tl j (by omega) h5
    have HQ4:Hid (q<4):=hq4
    clear hf hj hh ha
    go_wp2_with fail
    refine HAS.out.mono ?_
    rintro r X2 ⟨rfl,p2,hT,hm⟩
    have HQ2:Hid (InP W0 X2 t (iw Mq (rdA ((q:Int)+1) k)) p2 (l.length+(q+1)) b9 x k (q+1)):=⟨⟨hT,HTA.out.1,HTA.out.2.1⟩,hm.at HQ.out.A9 HQ.out.o9,hm.not HQ.out.A9.lt HQ.out.o9,HQ.out.nw,HTA.out.2.2⟩
    generalize iw Mq (rdA ((q:Int)+1) k)=M9 at *
    clear hT hm HAS HTA HQ
    go_wp2
    exact ⟨⟨q+1,M9,p2,by go_num,by have:=HQ4.out;omega,HQ2.out⟩,by simp [intOf];have:=HQ4.out;omega⟩
   ·obtain rfl:q=4:=by omega
    have hkx:¬((4:Nat):Int)+1≤4:=by omega
    go_wp2_with fail
    refine (aa8 HQ.out.pl.tg k HK8.out).mono ?_
    rintro r X3 ⟨rfl,b3'⟩
    rw [HQ.out.nw]
    obtain ⟨X4,hst,A18,b4⟩:=newCel x X3
    have HST:Hid ((Instr.storeAt 44 (.pointer (some ⟨X3.heap.size,0,.none⟩)) (.agg #[.int .i64 x.e,.int .i64 x.n,.string x.d])).run Tryz.prog (X3.alloc (.cells #[.int .i64 0,.int .i64 0,.string ⟨#[]⟩] 44))=.ok () X4):=hst
    obtain ⟨b18,hb18⟩:∃ b18,X3.heap.size=b18:=⟨_,rfl⟩
    have HB18:Hid (X3.heap.size=b18):=hb18
    have HQ4:Hid (InP W0 X4 t Mq pq (l.length+4) b9 x k 4):=(HQ.out.later b3').later b4
    have HL18:Hid ((Instr.loadAt 44 (.pointer (some ⟨b18,0,.none⟩))).run Tryz.prog X4=.ok (.agg #[.int .i64 x.e,.int .i64 x.n,.string x.d]) X4):=by rw [←hb18];exact G.p8 A18.whole
    have HL9:Hid ((Instr.loadAt 44 (.pointer (some ⟨b9,0,.none⟩))).run Tryz.prog X4=.ok (.agg #[.int .i64 x.e,.int .i64 x.n,.string x.d]) X4):=G.p8 HQ4.out.A9.whole
    have HE:Hid (Below w.heap.size w X4):=HB0.out.trans (HQ4.out.pl.tg.bw.mono HB0.out.size)
    generalize jr Mq=mq at *
    clear hst A18 b3' b4 hb18 HQ HQ4
    go_upto_region 25 with (with_reducible refine cu HST.out rfl rfl ?_)
    clear HST
    rw [HB18.out]
    clear HB18
    have heql:=eql_cel x
    go_wp2_with (first|with_reducible refine ak HL18.out rfl rfl ?_|with_reducible refine ak HL9.out rfl rfl ?_)
    go_ret
    exact ⟨rfl,HE.out⟩
end Go.Proofs.YtpkhdihoijkamaaGreatDoor.U
