/- Several texts of this seat in one: UBegin, UPower, UDel, UFly, UMap. No statement of the seat is proved here. -/
import Derived.Test.YtpkhdihoijkamaaGreatDoorWT
import Derived.Test.YtpkhdihoijkamaaGreatDoorZA26
import Derived.Test.YtpkhdihoijkamaaGreatDoorZA18
import Derived.Shelf.RegionOpenPlain
import Derived.Deep.RegionLaw
set_option maxHeartbeats 16000000
set_option maxRecDepth 1000000
namespace Go.Proofs.YtpkhdihoijkamaaGreatDoor.U
open Go.ChangeShapes Go.WideShapes Go.ChangeAt Go.RowKit Go.Deep Go.Maps
open Go.Proofs.YtpkhdihoijkamaaGreatDoor.D
theorem readyM_e (M:TM):(dx M).e=M.e:=by unfold dx;split <;> rfl
section
variable {w0 w w' w1:World} {t:Nat} {M M':TM} {p p':TP}
theorem aa.putN (h:aa w0 w t M p) (n:Int):aa w0 (w.setCell ⟨t,86,.none⟩ (.int .i64 n)) t { M with nm:=n } p∧ae p.F p.F w (w.setCell ⟨t,86,.none⟩ (.int .i64 n)):=by
 have A:=h.hd.setCell_same 86 (.int .i64 n)
 rw [show (p.tv M).set 86 (.int .i64 n)=p.tv { M with nm:=n } from tgV_nm h.len n] at A
 exact h.head (rs:=M.rs) (up:=M.up) ((ae.refl _ _).one_set 86 _) h.ok A
end
theorem errV_ne {f:Int} (h:¬f=0):ai f=.iface 96 (.int .i64 f):=by simp [ai,h]
theorem ac8 {w0 w:World} {t:Nat} {M:TM} {p:TP} (h:aa w0 w t M p) (hL:K.Laid w0) (s:KS) (a:Option Addr) (c:Nat) (hr:iy w p a s) :
 Calls Tryz.prog 66 #[.pointer (some ⟨t,0,.none⟩),.agg (s.vs a c).toArray] w fun r w'=>r=.returned (ai (gq M s).1)∧∃ p',aa w0 w' t (gq M s).2 p'∧p'.k=p.k∧p'.b=p.b∧ae p.F p'.F w w':=by
 obtain ⟨X,hX,a0,bX,sX⟩:=Go.Proofs.YtpkhdihoijkamaaGreatDoor.D.one w (.cells (s.vs a c).toArray 36)
 have A3:At X w.heap.size (s.vs a c) 36:=a0
 have HT:Hid (aa w0 X t M p):=h.later bX
 have HR:Hid (iy X p a s):=hr.later bX
 have HM:Hid (ae p.F p.F w X):=ae.of bX (Nat.le_refl _)
 have HL:Hid (K.Laid w0):=hL
 have hoff:¬p.F w.heap.size:=fun f=>by have:=h.foot _ f;omega
 clear a0 bX sX h hr hL
 go_enter Tryz.func66,Tryz.ntmps66
 go_upto_region 1 with fail
 rw [←hX]
 clear hX
 obtain ⟨b3,hb3⟩:∃ b3,w.heap.size=b3:=⟨_,rfl⟩
 rw [hb3] at A3 hoff ⊢
 clear hb3
 go_wp2_with fail
 refine (ready_any HT.out).mono ?_
 rintro r W1 ⟨rfl,t1,m1⟩
 have HT1:Hid (aa w0 W1 t (dx M) p):=t1
 have HR1:Hid (iy W1 p a s):=HR.out.moved m1
 replace HM:Hid (ae p.F p.F w W1):=HM.out.trans m1
 have HA:Hid (At W1 b3 (s.vs a c) 36∧¬p.F b3):=⟨m1.at A3 hoff,hoff⟩
 clear t1 m1 A3 hoff HR HT
 by_cases hrd:mi M=true
 case neg =>
  have HX:Hid (gq M s=(7,M)):=by show _=_;unfold gq;rw [if_neg hrd]
  have HE:Hid (uw M=7):=by show _=_;unfold uw;rw [if_neg hrd]
  have HY:Hid (dx M=M):=by show _=_;unfold dx;rw [if_neg hrd]
  rw [HE.out,show ai 7=.iface 96 (.int .i64 7) from rfl]
  clear hrd
  go_wp2
  go_ret
  exact ⟨by rw [HX.out];rfl,p,by rw [HX.out,←HY.out];rw [HY.out];rw [HY.out] at HT1;exact HT1.out,rfl,rfl,HM.out⟩
 have HE:Hid (uw M=0):=by show _=_;unfold uw;rw [if_pos hrd]
 obtain ⟨M1,hM1⟩:∃ M1,dx M=M1:=⟨_,rfl⟩
 have HX:Hid (gq M s=uk M1 s):=by show _=_;unfold gq;rw [if_pos hrd,hM1]
 rw [hM1] at HT1
 rw [HE.out,show ai 0=.nilIface from rfl]
 clear hrd hM1 HE
 go_wp2_with fail
 refine HT1.out.ep.mono ?_
 rintro r W ⟨rfl,hW⟩
 obtain rfl:=hW.symm
 by_cases he:M1.e=1000000
 case pos =>
  have HX1:Hid (uk M1 s=(6,M1)):=by show _=_;unfold uk;rw [if_pos he]
  rw [he]
  clear he
  go_wp2
  go_ret
  exact ⟨by rw [HX.out,HX1.out];rfl,p,by rw [HX.out,HX1.out];exact HT1.out,rfl,rfl,HM.out⟩
 have HX1:Hid (uk M1 s=if vo M1 (M1.e+1) M1.s=0 then ve (wiped (j5 M1 (M1.e+1) M1.s)) s else (vo M1 (M1.e+1) M1.s,j5 M1 (M1.e+1) M1.s)):=by show _=_;unfold uk;rw [if_neg he]
 go_upto_region 6 with fail
 refine ql (S:=fun w'=>w'.cell? ⟨t,0,.none⟩=some (.pointer (some ⟨p.k,0,.none⟩))) (by kernel_rfl) ?_
 intro V hV bV sV
 have HBd:Hid (Below W1.heap.size W1 V):=bV
 clear hV bV sV
 have HT2:Hid (aa w0 V t M1 p):=HT1.out.later HBd.out
 have HS:Hid (V.cell? ⟨t,0,.none⟩=some (.pointer (some ⟨p.k,0,.none⟩))):=HT2.out.cells.1
 have HW:Hid (IntKind.wrap .i64 (M1.e+1)=M1.e+1):=by
  have h1:=HT1.out.kk.kp.e1
  have h2:=HT1.out.kk.kp.e9
  show IntKind.wrap .i64 (M1.e+1)=M1.e+1
  rw [IntKind.wrap_i64];omega
 clear he
 refine wpG 0 (.pointer (some ⟨t,0,.none⟩)) HS.out ?_
 refine wpG 1 (.pointer (some ⟨t,0,.none⟩)) HS.out ?_
 refine wpG 2 (.pointer (some ⟨t,0,.none⟩)) HS.out ?_
 (try simp [Act.put])
 refine wpT 3 (.pointer (some ⟨p.k,0,.none⟩)) (.inl ⟨rfl,fun w' hw'=>?_⟩) HS.out ?_
 ·have hc:w'.cell? ⟨t,0,.none⟩=some (.pointer (some ⟨p.k,0,.none⟩)):=hw';go_simp
 refine wpG 4 (.pointer (some ⟨t,0,.none⟩)) HS.out ?_
 refine wpG 7 (.pointer (some ⟨t,0,.none⟩)) HS.out ?_
 (try simp [Act.put])
 refine wpA 5 (wpS ?_)
 go_wp2_with fail
 refine HT2.out.ep.mono ?_
 rintro r W2 ⟨rfl,hW⟩
 obtain rfl:=hW.symm
 refine ⟨HS.out,?_⟩
 (try simp [Act.put])
 refine wpT 6 (.int .i64 (M1.e+1)) (.inl ⟨rfl,fun w' hw'=>?_⟩) HS.out ?_
 ·go_simp;exact HW.out
 (try simp [Act.put])
 refine wpA 8 (wpS ?_)
 go_wp2_with fail
 refine HT2.out.st.mono ?_
 rintro r Y ⟨a2,c2,rfl,r2,_,b2⟩
 have HT3:Hid (aa w0 Y t M1 p):=HT2.out.later b2
 have HR3:Hid (iy Y p a2 M1.s):=r2
 have HR4:Hid (iy Y p a s):=(HR1.out.later HBd.out).later b2
 replace HM:Hid (ae p.F p.F w Y):=(HM.out.trans (ae.of HBd.out (Nat.le_refl _))).trans (ae.of b2 (Nat.le_refl _))
 replace HA:Hid (At Y b3 (s.vs a c) 36∧¬p.F b3):=⟨(HA.out.1.later HBd.out HA.out.1.lt).later b2 (HA.out.1.later HBd.out HA.out.1.lt).lt,HA.out.2⟩
 have HS3:Hid (Y.cell? ⟨t,0,.none⟩=some (.pointer (some ⟨p.k,0,.none⟩))):=HT3.out.cells.1
 clear b2 r2 HBd HR1
 refine ⟨HS3.out,?_⟩
 (try simp [Act.put])
 refine wpA 9 (wpS ?_)
 go_wp2_with fail
 refine (HT3.out.kp_any HL.out (M1.e+1) M1.s a2 c2 HR3.out).mono ?_
 rintro r V1 ⟨rfl,p2,t2,k2,b2,m2⟩
 have HT4:Hid (aa w0 V1 t (j5 M1 (M1.e+1) M1.s) p2):=t2
 have HR5:Hid (iy V1 p2 a s):=HR4.out.moved m2
 replace HM:Hid (ae p.F p2.F w V1):=HM.out.trans m2
 replace HA:Hid (At V1 b3 (s.vs a c) 36∧¬p2.F b3):=⟨m2.at HA.out.1 HA.out.2,m2.not HA.out.1.lt HA.out.2⟩
 have HKB:Hid (p2.k=p.k∧p2.b=p.b):=⟨k2,b2⟩
 have HS4:Hid (V1.cell? ⟨t,0,.none⟩=some (.pointer (some ⟨p.k,0,.none⟩))):=by have:=HT4.out.cells.1;rw [k2] at this;exact this
 clear t2 k2 b2 m2 HT3 HR3 HR4 HS3
 refine ⟨HS4.out,?_⟩
 by_cases hk:vo M1 (M1.e+1) M1.s=0
 case neg =>
  have HX2:Hid (gq M s=(vo M1 (M1.e+1) M1.s,j5 M1 (M1.e+1) M1.s)):=by show _=_;rw [HX.out,HX1.out,if_neg hk]
  obtain ⟨f,hf⟩:∃ f,vo M1 (M1.e+1) M1.s=f:=⟨_,rfl⟩
  rw [hf] at hk HX2 ⊢
  have HE:Hid (ai f=.iface 96 (.int .i64 f)):=errV_ne hk
  rw [HE.out]
  clear hk hf
  (try simp [Act.put])
  refine wpG 10 (.iface 96 (.int .i64 f)) HS4.out ?_
  (try simp [Act.put])
  refine wpZ ?_
  (try simp [Act.put])
  go_wp2
  go_ret
  exact ⟨by rw [HX2.out,HE.out];rfl,p2,by rw [HX2.out];exact HT4.out,HKB.out.1,HKB.out.2,HM.out⟩
 obtain ⟨M2,hM2⟩:∃ M2,j5 M1 (M1.e+1) M1.s=M2:=⟨_,rfl⟩
 have HX2:Hid (gq M s=ve (wiped M2) s):=by show _=_;rw [HX.out,HX1.out,if_pos hk,hM2]
 rw [hM2] at HT4
 rw [hk,show ai 0=.nilIface from rfl]
 clear hk hM2 HX HX1
 (try simp [Act.put])
 refine wpG 10 (.nilIface) HS4.out ?_
 (try simp [Act.put])
 refine wpZ ?_
 (try simp [Act.put])
 have HN:=HT4.out.putN 0
 have c86:=HT4.out.cells.2.2.2.2
 have c84:=HT4.out.cells.2.2.1
 have f86:=HT4.out.froz 86 (by decide)
 have HMP:Hid (qo (V1.setCell ⟨t,86,.none⟩ (.int .i64 0)) p2.m M2.W):=HN.1.mp
 have c84':=HN.1.cells.2.2.1
 go_wp2_with (refine wpList_clearM rfl _ rfl rfl HMP.out ?_)
 intro V3 h3 m3
 have h4:=HN.1.map m3 h3
 have HT5:Hid (aa w0 V3 t (wiped M2) p2):=h4.1
 replace HM:Hid (ae p.F p2.F w V3):=(HM.out.trans HN.2).trans h4.2
 replace HR5:Hid (iy V3 p2 a s):=(HR5.out.moved HN.2).moved h4.2
 replace HA:Hid (At V3 b3 (s.vs a c) 36∧¬p2.F b3):=⟨h4.2.at (HN.2.at HA.out.1 HA.out.2) HA.out.2,HA.out.2⟩
 clear HN c86 c84 f86 HMP c84' h3 m3 h4 HT4 HS4
 go_wp2_with fail
 refine (ready_any HT5.out).mono ?_
 rintro r V4 ⟨rfl,t4,m4⟩
 have HT6:Hid (aa w0 V4 t (dx (wiped M2)) p2):=t4
 replace HM:Hid (ae p.F p2.F w V4):=HM.out.trans m4
 replace HR5:Hid (iy V4 p2 a s):=HR5.out.moved m4
 replace HA:Hid (At V4 b3 (s.vs a c) 36∧¬p2.F b3):=⟨m4.at HA.out.1 HA.out.2,HA.out.2⟩
 clear t4 m4 HT5
 obtain ⟨M3,hM3⟩:∃ M3,wiped M2=M3:=⟨_,rfl⟩
 rw [hM3] at HX2 HT6 ⊢
 clear hM3
 by_cases hrd:mi M3=true
 case neg =>
  have HX3:Hid (ve M3 s=(7,M3)):=by show _=_;unfold ve;rw [if_neg hrd]
  have HE:Hid (uw M3=7):=by show _=_;unfold uw;rw [if_neg hrd]
  have HY:Hid (dx M3=M3):=by show _=_;unfold dx;rw [if_neg hrd]
  rw [HY.out] at HT6
  rw [HE.out,show ai 7=.iface 96 (.int .i64 7) from rfl]
  clear hrd
  go_wp2
  go_ret
  exact ⟨by rw [HX2.out,HX3.out];rfl,p2,by rw [HX2.out,HX3.out];exact HT6.out,HKB.out.1,HKB.out.2,HM.out⟩
 have HE:Hid (uw M3=0):=by show _=_;unfold uw;rw [if_pos hrd]
 have HX3:Hid (ve M3 s=(vo (dx M3) (dx M3).e s,j5 (dx M3) (dx M3).e s)):=by show _=_;unfold ve;rw [if_pos hrd,readyM_e]
 obtain ⟨M4,hM4⟩:∃ M4,dx M3=M4:=⟨_,rfl⟩
 rw [hM4] at HX3 HT6
 rw [HE.out,show ai 0=.nilIface from rfl]
 clear hrd hM4 HE
 go_upto_region 14 with fail
 refine ql (S:=fun w'=>w'.cell? ⟨t,0,.none⟩=some (.pointer (some ⟨p.k,0,.none⟩))∧At w' b3 (s.vs a c) 36) (by kernel_rfl) ?_
 intro V7 hV bV sV
 have HB4:Hid (Below V4.heap.size V4 V7):=bV
 clear hV bV sV
 replace HT6:Hid (aa w0 V7 t M4 p2):=HT6.out.later HB4.out
 have HS7:Hid (V7.cell? ⟨t,0,.none⟩=some (.pointer (some ⟨p.k,0,.none⟩))∧At V7 b3 (s.vs a c) 36):=⟨by have:=HT6.out.cells.1;rw [HKB.out.1] at this;exact this,HA.out.1.later HB4.out HA.out.1.lt⟩
 refine wpG 0 (.pointer (some ⟨t,0,.none⟩)) HS7.out ?_
 refine wpG 1 (.pointer (some ⟨t,0,.none⟩)) HS7.out ?_
 refine wpG 2 (.pointer (some ⟨t,0,.none⟩)) HS7.out ?_
 (try simp [Act.put])
 refine wpT 3 (.pointer (some ⟨p.k,0,.none⟩)) (.inl ⟨rfl,fun w' hw'=>?_⟩) HS7.out ?_
 ·have hc:w'.cell? ⟨t,0,.none⟩=some (.pointer (some ⟨p.k,0,.none⟩)):=hw'.1;go_simp
 refine wpG 4 (.pointer (some ⟨t,0,.none⟩)) HS7.out ?_
 refine wpT 6 (.agg (s.vs a c).toArray) (.inl ⟨rfl,fun w' hw'=>?_⟩) HS7.out ?_
 ·exact jc (jk hw'.2) rfl
 (try simp [Act.put])
 refine wpA 5 (wpS ?_)
 go_wp2_with fail
 refine HT6.out.ep.mono ?_
 rintro r V5 ⟨rfl,hW⟩
 obtain rfl:=hW.symm
 refine ⟨HS7.out,?_⟩
 (try simp [Act.put])
 refine wpA 7 (wpS ?_)
 go_wp2_with fail
 rw [←HKB.out.1]
 refine (HT6.out.kp_any HL.out M4.e s a c (HR5.out.later HB4.out)).mono ?_
 rintro r V6 ⟨rfl,p3,t3,k3,b3',m3⟩
 have HT7:Hid (aa w0 V6 t (j5 M4 M4.e s) p3):=t3
 have HKB2:Hid (p3.k=p.k∧p3.b=p.b):=⟨k3.trans HKB.out.1,b3'.trans HKB.out.2⟩
 have HS8:Hid (V6.cell? ⟨t,0,.none⟩=some (.pointer (some ⟨p.k,0,.none⟩))∧At V6 b3 (s.vs a c) 36):=⟨by have:=HT7.out.cells.1;rw [HKB2.out.1] at this;exact this,m3.at HS7.out.2 HA.out.2⟩
 replace HM:Hid (ae p.F p3.F w V6):=(HM.out.trans (ae.of HB4.out (Nat.le_refl _))).trans m3
 clear t3 k3 b3' m3 HS7 HT6
 rw [HKB.out.1]
 refine ⟨HS8.out,?_⟩
 (try simp [Act.put])
 obtain ⟨v,hv⟩:∃ v,ai (vo M4 M4.e s)=v:=⟨_,rfl⟩
 rw [hv]
 have HV:Hid (ai (vo M4 M4.e s)=v):=hv
 clear hv
 refine wpG 8 (v) HS8.out ?_
 (try simp [Act.put])
 refine wpZ ?_
 (try simp [Act.put])
 go_wp2
 go_ret
 exact ⟨by rw [HX2.out,HX3.out,HV.out];rfl,p3,by rw [HX2.out,HX3.out];exact HT7.out,HKB2.out.1,HKB2.out.2,HM.out⟩
theorem tpower_any {w0 w:World} {t:Nat} {M:TM} {p:TP} (h:aa w0 w t M p) (hL:K.Laid w0) :
 Calls Tryz.prog 35 #[.pointer (some ⟨t,0,.none⟩)] w fun r w'=>r=.returned (ai (iq M).1)∧∃ p',aa w0 w' t (iq M).2 p'∧p'.k=p.k∧p'.b=p.b∧ae p.F p'.F w w':=by
 have HT:Hid (aa w0 w t M p):=h
 have HL:Hid (K.Laid w0):=hL
 clear h hL
 go_enter Tryz.func35,Tryz.ntmps35
 go_wp2_with fail
 refine HT.out.st.mono ?_
 rintro r W1 ⟨a1,c1,rfl,r1,_,b1⟩
 obtain ⟨V,hst,A3,bV⟩:=newS M.s a1 c1 W1
 have HST:Hid ((Instr.storeAt 36 (.pointer (some ⟨W1.heap.size,0,.none⟩)) (.agg (M.s.vs a1 c1).toArray)).run Tryz.prog (W1.alloc (.cells #[.int .i64 0,.slice .none 0 0,.int .i64 0,.int .i64 0,.bool false] 36))=.ok () V):=hst
 have HR:Hid (iy W1 p a1 M.s):=r1
 have HB1:Hid (Below w.heap.size w W1):=b1
 have HBV:Hid (Below W1.heap.size W1 V):=bV
 have c4:V.cell? ⟨W1.heap.size,4,.none⟩=some (.bool M.s.y):=A3.cell 4
 have HA:Hid (At V W1.heap.size (M.s.vs a1 c1) 36):=A3
 clear hst bV r1 b1 A3
 go_upto_region 2 with (with_reducible refine cu HST.out rfl rfl ?_)
 clear HST
 obtain ⟨c,hc⟩:∃ c,W1.heap.size=c:=⟨_,rfl⟩
 have HC:Hid (W1.heap.size=c):=hc
 rw [hc] at c4 HA HBV ⊢
 clear hc
 by_cases hy:M.s.y=true
 ·rw [hy] at c4
  have c0:V.cell? ⟨c,0,.none⟩=some (.int .i64 M.s.g):=HA.out.cell 0
  have f0:V.frozen? ⟨c,0,.none⟩=false:=(HA.out.there 0 1 (by simp [KS.vs]) 0 (by decide)).2
  have A6:=HA.out.setCell_same 0 (.int .i64 0)
  have hP:bf M.s={ M.s with g:=0 }:=by unfold bf;rw [if_pos hy]
  have hBY:Below c W1 (V.setCell ⟨c,0,.none⟩ (.int .i64 0)):=HBV.out.setCell (Nat.le_refl _) _
  rw [show (M.s.vs a1 c1).set 0 (.int .i64 0)=(bf M.s).vs a1 c1 by rw [hP];rfl] at A6
  have HR3:Hid (iy (V.setCell ⟨c,0,.none⟩ (.int .i64 0)) p a1 (bf M.s)):=by
   show iy _ _ _ _
   rw [hP]
   exact (HR.out.later (by rw [HC.out];exact hBY)).gen 0
  have HLD:Hid ((Instr.loadAt 36 (.pointer (some ⟨c,0,.none⟩))).run Tryz.prog (V.setCell ⟨c,0,.none⟩ (.int .i64 0))=.ok (.agg ((bf M.s).vs a1 c1).toArray) (V.setCell ⟨c,0,.none⟩ (.int .i64 0))):=jk A6
  have HBY:Hid (Below w.heap.size w (V.setCell ⟨c,0,.none⟩ (.int .i64 0))):=HB1.out.trans (hBY.mono (by have:=HB1.out.size;rw [←HC.out];exact this))
  have HT3:Hid (aa w0 (V.setCell ⟨c,0,.none⟩ (.int .i64 0)) t M p):=HT.out.later HBY.out
  clear A6 hP hy hBY HBV HB1 HR HA HC HT
  go_wp2_with (with_reducible refine ak HLD.out rfl rfl ?_)
  generalize V.setCell ⟨c,0,.none⟩ (.int .i64 0)=Y at *
  refine (ac8 HT3.out HL.out (bf M.s) a1 c1 HR3.out).mono ?_
  rintro r Z ⟨rfl,p2,t2,k2,b2,m2⟩
  have HT4:Hid (aa w0 Z t (gq M (bf M.s)).2 p2):=t2
  have HKB:Hid (p2.k=p.k∧p2.b=p.b):=⟨k2,b2⟩
  have HM:Hid (ae p.F p2.F w Z):=(ae.of HBY.out (Nat.le_refl _)).trans m2
  clear t2 k2 b2 m2 HT3 HR3 HBY HLD
  by_cases hf:(gq M (bf M.s)).1=0
  ·have HX:Hid (iq M=(0,{ (gq M (bf M.s)).2 with L:=xm })):=by show _=_;unfold iq;rw [if_pos hf]
   obtain ⟨M2,hM2⟩:∃ M2,(gq M (bf M.s)).2=M2:=⟨_,rfl⟩
   rw [hM2] at HX HT4
   rw [hf,show ai 0=.nilIface from rfl]
   clear hf hM2
   go_wp2_with fail
   refine (Go.Proofs.YtpkhdihoijkamaaGreatDoor.power_any _).mono ?_
   rintro r Z2 ⟨A',N',C',rfl,hB,b3⟩
   obtain ⟨Z3,p3,hst3,t3,b3',k3,m3,_⟩:=HT4.out.putB b3 (fun j hj=>(hB j hj).mono (Nat.zero_le _)) (fun j hj=>.inr (fun ad e=>(hB j hj).2.2.1 ad e))
   have HST3:Hid ((Instr.storeAt 103 (.pointer (some ⟨t,79,.none⟩)) (Go.Proofs.YtpkhdihoijkamaaGreatDoor.bx A' N' C')).run Tryz.prog Z2=.ok () Z3):=hst3
   have HT5:Hid (aa w0 Z3 t { M2 with L:=xm } p3):=t3
   have HM3:Hid (ae p.F p3.F w Z3):=HM.out.trans m3
   have HKB3:Hid (p3.k=p.k∧p3.b=p.b):=⟨k3.trans HKB.out.1,b3'.trans HKB.out.2⟩
   clear hB b3 hst3 t3 k3 b3' m3 HT4 HM HKB
   go_wp2_with (with_reducible refine cu HST3.out rfl rfl ?_)
   go_ret
   exact ⟨by rw [HX.out];rfl,p3,by rw [HX.out];exact HT5.out,HKB3.out.1,HKB3.out.2,HM3.out⟩
  ·have HX:Hid (iq M=gq M (bf M.s)):=by show _=_;unfold iq;rw [if_neg hf]
   obtain ⟨f,hff⟩:∃ f,(gq M (bf M.s)).1=f:=⟨_,rfl⟩
   have HE:Hid (ai (gq M (bf M.s)).1=.iface 96 (.int .i64 f)):=by show _=_;rw [errV_ne hf,hff]
   rw [HE.out]
   clear hf hff
   go_wp2
   go_ret
   exact ⟨by rw [HX.out,HE.out];rfl,p2,by rw [HX.out];exact HT4.out,HKB.out.1,HKB.out.2,HM.out⟩
 ·obtain ⟨V2,hst2,A5,hm2⟩:=putS KS.none .none 0 HA.out rfl
  have HST2:Hid ((Instr.storeAt 36 (.pointer (some ⟨c,0,.none⟩)) (.agg #[.int .i64 0,.slice .none 0 0,.int .i64 0,.int .i64 0,.bool false])).run Tryz.prog V=.ok () V2):=hst2
  rw [show M.s.y=false by simpa using hy] at c4
  have hP:bf M.s=KS.none:=by unfold bf;rw [if_neg hy]
  have c0:V2.cell? ⟨c,0,.none⟩=some (.int .i64 0):=A5.cell 0
  have f0:V2.frozen? ⟨c,0,.none⟩=false:=(A5.there 0 1 (by simp [KS.vs]) 0 (by decide)).2
  have A6:=A5.setCell_same 0 (.int .i64 0)
  rw [show (KS.none.vs .none 0).set 0 (.int .i64 0)=(bf M.s).vs .none 0 by rw [hP];rfl] at A6
  have hBY:Below c W1 (V2.setCell ⟨c,0,.none⟩ (.int .i64 0)):=(hm2.below HBV.out (fun q hq=>by rw [show q=c from hq];exact Nat.le_refl _) (by have:=HBV.out.size;rw [←HC.out];exact this)).setCell (Nat.le_refl _) _
  have HR3:Hid (iy (V2.setCell ⟨c,0,.none⟩ (.int .i64 0)) p .none (bf M.s)):=by
   show iy _ _ _ _
   rw [hP]
   exact iy.none _ _
  have HLD:Hid ((Instr.loadAt 36 (.pointer (some ⟨c,0,.none⟩))).run Tryz.prog (V2.setCell ⟨c,0,.none⟩ (.int .i64 0))=.ok (.agg ((bf M.s).vs .none 0).toArray) (V2.setCell ⟨c,0,.none⟩ (.int .i64 0))):=jk A6
  have HBY:Hid (Below w.heap.size w (V2.setCell ⟨c,0,.none⟩ (.int .i64 0))):=HB1.out.trans (hBY.mono (by have:=HB1.out.size;rw [←HC.out];exact this))
  have HT3:Hid (aa w0 (V2.setCell ⟨c,0,.none⟩ (.int .i64 0)) t M p):=HT.out.later HBY.out
  clear A6 A5 hP hy hBY HBV HB1 HR HA HC HT hst2 hm2
  go_wp2_with (first|with_reducible refine ak HLD.out rfl rfl ?_|with_reducible refine cu HST2.out rfl rfl ?_)
  generalize V2.setCell ⟨c,0,.none⟩ (.int .i64 0)=Y at *
  refine (ac8 HT3.out HL.out (bf M.s) .none 0 HR3.out).mono ?_
  rintro r Z ⟨rfl,p2,t2,k2,b2,m2⟩
  have HT4:Hid (aa w0 Z t (gq M (bf M.s)).2 p2):=t2
  have HKB:Hid (p2.k=p.k∧p2.b=p.b):=⟨k2,b2⟩
  have HM:Hid (ae p.F p2.F w Z):=(ae.of HBY.out (Nat.le_refl _)).trans m2
  clear t2 k2 b2 m2 HT3 HR3 HBY HLD
  by_cases hf:(gq M (bf M.s)).1=0
  ·have HX:Hid (iq M=(0,{ (gq M (bf M.s)).2 with L:=xm })):=by show _=_;unfold iq;rw [if_pos hf]
   obtain ⟨M2,hM2⟩:∃ M2,(gq M (bf M.s)).2=M2:=⟨_,rfl⟩
   rw [hM2] at HX HT4
   rw [hf,show ai 0=.nilIface from rfl]
   clear hf hM2
   go_wp2_with fail
   refine (Go.Proofs.YtpkhdihoijkamaaGreatDoor.power_any _).mono ?_
   rintro r Z2 ⟨A',N',C',rfl,hB,b3⟩
   obtain ⟨Z3,p3,hst3,t3,b3',k3,m3,_⟩:=HT4.out.putB b3 (fun j hj=>(hB j hj).mono (Nat.zero_le _)) (fun j hj=>.inr (fun ad e=>(hB j hj).2.2.1 ad e))
   have HST3:Hid ((Instr.storeAt 103 (.pointer (some ⟨t,79,.none⟩)) (Go.Proofs.YtpkhdihoijkamaaGreatDoor.bx A' N' C')).run Tryz.prog Z2=.ok () Z3):=hst3
   have HT5:Hid (aa w0 Z3 t { M2 with L:=xm } p3):=t3
   have HM3:Hid (ae p.F p3.F w Z3):=HM.out.trans m3
   have HKB3:Hid (p3.k=p.k∧p3.b=p.b):=⟨k3.trans HKB.out.1,b3'.trans HKB.out.2⟩
   clear hB b3 hst3 t3 k3 b3' m3 HT4 HM HKB
   go_wp2_with (with_reducible refine cu HST3.out rfl rfl ?_)
   go_ret
   exact ⟨by rw [HX.out];rfl,p3,by rw [HX.out];exact HT5.out,HKB3.out.1,HKB3.out.2,HM3.out⟩
  ·have HX:Hid (iq M=gq M (bf M.s)):=by show _=_;unfold iq;rw [if_neg hf]
   obtain ⟨f,hff⟩:∃ f,(gq M (bf M.s)).1=f:=⟨_,rfl⟩
   have HE:Hid (ai (gq M (bf M.s)).1=.iface 96 (.int .i64 f)):=by show _=_;rw [errV_ne hf,hff]
   rw [HE.out]
   clear hf hff
   go_wp2
   go_ret
   exact ⟨by rw [HX.out,HE.out];rfl,p2,by rw [HX.out];exact HT4.out,HKB.out.1,HKB.out.2,HM.out⟩
def z6:List Value:=[.int .i64 0,.int .i64 0,.int .i64 0,.int .i64 0,.string ⟨#[]⟩,.int .i64 0]
theorem info6:(Tryz.prog.info? 116).map (·.size)=some 6:=by kernel_rfl
theorem ed.len (m:ed):m.vs.length=6:=rfl
theorem ed.one (m:ed):∀ v ∈ m.vs,v.oneCell'=true:=by
 intro v hv
 simp only [ed.vs,G.msgV,List.mem_cons,List.not_mem_nil,or_false] at hv
 rcases hv with rfl|rfl|rfl|rfl|rfl|rfl <;> rfl
theorem msgs_len:∀ l:List ed,(gu l).length=l.length*6
 | []=>rfl
 | m :: l=>by
   have ih:=msgs_len l
   unfold gu at ih ⊢
   rw [List.flatMap_cons,List.length_append,ih,ed.len,List.length_cons];omega
theorem msgs_one (l:List ed):∀ v ∈ gu l,v.oneCell'=true:=by
 intro v hv
 simp only [gu,List.mem_flatMap] at hv
 obtain ⟨m,_,h⟩:=hv
 exact m.one v h
theorem msgs_take:∀ (l:List ed) (k:Nat),gu (l.take k)=(gu l).take (k*6)
 | [],k=>by simp [gu]
 | m :: l,0=>by simp [gu]
 | m :: l,k+1=>by
   have ih:=msgs_take l k
   unfold gu at ih ⊢
   rw [List.take_succ_cons,List.flatMap_cons,List.flatMap_cons,ih,List.take_append,ed.len,List.take_of_length_le (l:=m.vs) (by rw [ed.len];omega),show (k+1)*6 - 6=k*6 by omega]
theorem msgs_drop:∀ (l:List ed) (k:Nat),gu (l.drop k)=(gu l).drop (k*6)
 | [],k=>by simp [gu]
 | m :: l,0=>by simp [gu]
 | m :: l,k+1=>by
   have ih:=msgs_drop l k
   unfold gu at ih ⊢
   rw [List.drop_succ_cons,List.flatMap_cons,ih,List.drop_append,ed.len,List.drop_of_length_le (l:=m.vs) (by rw [ed.len];omega),List.nil_append,show (k+1)*6 - 6=k*6 by omega]
theorem msgs_erase (l:List ed) (i:Nat):gu (l.eraseIdx i)=(gu l).take (i*6) ++ (gu l).drop ((i+1)*6):=by
 rw [List.eraseIdx_eq_take_drop_succ,←msgs_take,←msgs_drop]
 unfold gu
 rw [List.flatMap_append]
theorem zeros6_one (m:Nat):∀ v ∈ (Builtin.zeroCells (Value.agg z6.toArray).cells m).toList,v.oneCell'=true:=by
 intro v hv
 simp [Builtin.zeroCells,Value.cells,z6] at hv
 obtain ⟨j,_,rfl⟩:=hv
 rcases (by omega:j % 6=0∨j % 6=1∨j % 6=2∨j % 6=3∨j % 6=4∨j % 6=5) with h|h|h|h|h|h <;> simp [h] <;> rfl
theorem clear6 (w:World) (g p m c:Nat) (cur:List Value) (hg:At w g cur 116) (hm:0<m) (hfit:p+m*6≤cur.length) :
 ∃ w' cur',At w' g cur' 116∧cur'.length=cur.length∧cur'.take p=cur.take p∧ae (Is g) (Is g) w w'∧∀ ty,(Builtin.clear_ #[53] ty #[.slice (some ⟨g,p,.none⟩) m c]).run Tryz.prog w=.ok (.tuple #[]) w':=by
 have hz:(Builtin.zeroCells (Value.agg z6.toArray).cells m).size=m*6:=by rw [size_zeroCells];rfl
 have hst:=run_storeCells_at Tryz.prog g p 116 (Builtin.zeroCells (Value.agg z6.toArray).cells m).toList 0 cur.toArray w hg (by simp [hz];omega) (zeros6_one m)
 have hg':w.heap[g]? = some (.cells cur.toArray 116 (0,0)):=hg
 obtain ⟨k,rfl⟩:∃ k,m=k+1:=⟨m - 1,by omega⟩
 refine ⟨w.setRow g (cur.take p ++ (Builtin.zeroCells (Value.agg z6.toArray).cells (k+1)).toList ++ cur.drop (p+(k+1)*6)).toArray,cur.take p ++ (Builtin.zeroCells (Value.agg z6.toArray).cells (k+1)).toList ++ cur.drop (p+(k+1)*6),setRow_heap w g _ _ _ _ hg',by simp [hz];omega,by simp [List.take_append];rw [List.take_of_length_le (by simp;omega)];simp;omega,
  ⟨rfl,rfl,rfl,by simp [World.setRow],fun q _ hq=>setRow_other w g q _ (fun e=>hq e),fun _ h=>.inl h⟩,fun ty=>?_⟩
 simp [Builtin.clear_,run_underlying Tryz.underlying53]
 rw [show (Value.agg #[.int .i64 0,.int .i64 0,.int .i64 0,.int .i64 0,.string ⟨#[]⟩,.int .i64 0])=Value.agg z6.toArray from rfl,hst]
 simp [Result.andThen,hz]
theorem delete_any (g cap n i:Nat) (xs:List Value) (w:World) (h:ek 116 6 w (.slice (some ⟨g,0,.none⟩) n cap) n xs) (hone:∀ u ∈ xs,u.oneCell'=true) (hi:i<n) :
 Calls Tryz.prog 93 #[.slice (some ⟨g,0,.none⟩) n cap,.int .i64 i,.int .i64 ((i:Int)+1)] w fun r w'=>r=.returned (.slice (some ⟨g,0,.none⟩) (n - 1) cap) ∧
  ek 116 6 w' (.slice (some ⟨g,0,.none⟩) (n - 1) cap) (n - 1) (xs.take (i*6) ++ xs.drop ((i+1)*6))∧ae (Is g) (Is g) w w':=by
 obtain ⟨g',cap',cur,e,hg,hnc,hmx,hsz,htk⟩:=h.some (by omega)
 simp only [Value.slice.injEq,Option.some.injEq,Addr.mk.injEq,and_true,true_and] at e
 obtain ⟨rfl,rfl⟩:=e
 have hxl:=h.1
 obtain ⟨lc,rfl⟩:∃ lc:List Value,cur=lc.toArray:=⟨cur.toList,by simp⟩
 simp only [List.size_toArray] at hsz
 simp only at htk
 have A0:At w g lc 116:=hg
 -- what is moved to the left
 obtain ⟨news,hnews⟩:∃ news,news=xs.drop ((i+1)*6):=⟨_,rfl⟩
 have hlen:news.length=(n - (i+1))*6:=by rw [hnews,List.length_drop,hxl];omega
 have hcell:∀ t u,xs[t]? = some u→w.cell? ⟨g,t,.none⟩=some u:=by
  intro t u hu
  rw [A0.cell]
  rw [←htk,List.getElem?_take] at hu
  split at hu
  ·exact hu
  ·cases hu
 have hxs1:∀ u ∈ xs,u.oneCell'=true:=hone
 obtain ⟨pre,hpre⟩:∃ pre,pre=lc.take (i*6):=⟨_,rfl⟩
 obtain ⟨old,hold⟩:∃ old,old=(lc.drop (i*6)).take news.length:=⟨_,rfl⟩
 obtain ⟨post,hpost⟩:∃ post,post=(lc.drop (i*6)).drop news.length:=⟨_,rfl⟩
 have hsplit:lc=pre ++ (old ++ post):=by rw [hpre,hold,hpost,List.take_append_drop,List.take_append_drop]
 have hpl:pre.length=i*6:=by rw [hpre,List.length_take,hsz];omega
 have hol:old.length=news.length:=by rw [hold,List.length_take,List.length_drop,hsz,hlen];omega
 have hpx:pre=xs.take (i*6):=by rw [hpre,←htk,List.take_take,Nat.min_eq_left (by omega)]
 obtain ⟨W1,hW1⟩:∃ W1,W1=w.drew.setCells g (0+i*6) news:=⟨_,rfl⟩
 have A1:At W1 g (pre ++ (news ++ post)) 116:=by
  have h1:At w.drew g lc 116:=A0
  have:=At.set news (i*6) w.drew lc h1
  rw [hsplit,←hpl,acz news pre old post hol,hpl] at this
  rw [hW1,Nat.zero_add]
  exact this
 have m1:ae (Is g) (Is g) w W1:=by
  rw [hW1]
  exact ae.sets (show Is g g from rfl) _ _ _ (ae.of (Below.refl w.heap.size w).drew (Nat.le_refl _))
 have hlc:(pre ++ (news ++ post)).length=cap*6:=by
  have e1:=congrArg List.length hsplit
  rw [hsz] at e1
  simp only [List.length_append] at e1 ⊢
  omega
 obtain ⟨W2,cur',A2,hl2,ht2,m2,hc2⟩:=clear6 W1 g ((i+(n - (i+1)))*6) (n - (i+(n - (i+1)))) (cap - (i+(n - (i+1)))) _ A1 (by omega) (by rw [hlc];omega)
 have HOX:Hid (ek 116 6 W2 (.slice (some ⟨g,0,.none⟩) (n - 1) cap) (n - 1) (xs.take (i*6) ++ xs.drop ((i+1)*6))∧ae (Is g) (Is g) w W2):=by
  refine ⟨⟨by rw [List.length_append,←hpx,←hnews,hpl,hlen];omega,.inr ⟨g,cap,cur'.toArray,rfl,Nat.zero_le _,A2,by omega,hmx,by simp only [List.size_toArray];rw [hl2,hlc],?_⟩⟩,m1.trans m2⟩
  simp only
  rw [show (n - 1)*6=(i+(n - (i+1)))*6 by omega,ht2,←hpx,←hnews,←List.append_assoc,List.take_left' (by rw [List.length_append,hpl,hlen];omega)]
 have HW:Hid (W1=w.drew.setCells g (0+i*6) news):=hW1
 have HC:Hid (∀ ty,(Builtin.clear_ #[53] ty #[.slice (some ⟨g,(i+(n - (i+1)))*6,.none⟩) (n - (i+(n - (i+1)))) (cap - (i+(n - (i+1))))]).run Tryz.prog W1=.ok (.tuple #[]) W2):=hc2
 obtain ⟨AA,hAA,hsrc⟩:∃ AA:Addr,(if cap=i+1 then some (⟨g,0,.none⟩:Addr) else some ⟨g,(i+1)*6,.none⟩)=some AA∧Hid (∀ t u,news[t]? = some u→w.drew.cell? (AA.add t)=some u):=by
  by_cases h:cap=i+1
  ·refine ⟨⟨g,0,.none⟩,by simp [h],fun t u hu=>?_⟩
   have h0:news.length=0:=by rw [hlen];omega
   rw [List.length_eq_zero_iff.1 h0] at hu
   simp at hu
  ·refine ⟨⟨g,(i+1)*6,.none⟩,by simp [h],fun t u hu=>?_⟩
   rw [hnews,List.getElem?_drop] at hu
   rw [Addr.add_lit]
   exact hcell _ _ hu
 have s1:Hid (news.length=(n - (i+1))*6):=hlen
 have s2:Hid (∀ u ∈ news,u.oneCell'=true):=by
  intro u hu
  rw [hnews] at hu
  exact hxs1 u (List.mem_of_mem_drop hu)
 have s3:Hid (∀ t,t<news.length→(w.drew.cell? ⟨g,0+i*6+t,.none⟩).isSome=true∧w.drew.frozen? ⟨g,0+i*6+t,.none⟩=false):=by
  intro t ht
  have h1:At w.drew g lc 116:=A0
  have:=h1.there (i*6+t) 1 (by omega) 0 (by decide)
  rw [Nat.zero_add]
  exact ⟨this.1,this.2⟩
 obtain ⟨i0,hi0,hz0⟩:∃ i0,Tryz.prog.info? 116=some i0∧i0.size=6:=by
  have:=info6
  cases hq:Tryz.prog.info? 116 with
  | none=>rw [hq] at this;cases this
  | some q=>rw [hq] at this;exact ⟨q,rfl,by simpa using this⟩
 have hic:i≤cap:=by omega
 have hjc:i+1≤cap:=by omega
 have h01:(0:Int)≤(i:Int)+1:=by omega
 have h02:(i:Int)+1≤(n:Int):=by omega
 clear hW1 A1 m1 hlc A2 hl2 ht2 m2 hc2 hsplit hpl hol hpx hpre hold hpost hlen hnews hcell A0 htk hsz hg hxl h hone hxs1
 have mixed:Tryz.prog.follows .mixedOrders=true:=by kernel_rfl
 have h03:i+(n - (i+1))≤n:=by omega
 have h04:n≤cap:=hnc
 go_enter Tryz.func93,Tryz.ntmps93
 go_wp2_with fail
 go_region_law_o (refine step_append_room rfl (.tmp 22) (.tmp 25) 53 rfl 116 i0 6 Tryz.underlying53 hi0 hz0 g 0 i cap (by simp [Act.eval,Act.put]) AA (n - (i+1)) (cap - (i+1)) news (by simp [Act.eval,Act.put]) s1.out hsrc.out s2.out (by omega) s3.out ?_;rw [←HW.out])
 have hcl:=HC.out
 go_wp2
 go_ret
 exact ⟨by rw [show n - 1=i+(n - (i+1)) by omega];rfl,HOX.out.1,HOX.out.2⟩
section
variable {w0 w w' w1:World} {t:Nat} {M M':TM} {p p':TP} {F':Nat→Prop}
theorem aa.fvIs (h:aa w0 w t M p):∃ a c,p.fv=.slice a M.fly.length c:=h.fl.form
theorem aa.fliesB (h:aa w0 w t M p) (i:Int):Calls Tryz.prog 56 #[.pointer (some ⟨t,0,.none⟩),.int .i64 i] w fun r w'=>r=.returned (.bool (decide (0≤i) && decide (i<M.fly.length)))∧w'=w:=by
 obtain ⟨a,c,hf⟩:=h.fvIs
 have A:=h.hd
 unfold TP.tv at A
 rw [hf] at A
 exact flies_any A h.len i
theorem aa.putF (h:aa w0 w t M p) {fv:Value} {fly:List ed} (hm1:ae (ObX p.fv) (ObX fv) w w1) (hf:ek 116 6 w1 fv fly.length (gu fly)) :
 ∃ p',aa w0 (w1.setCell ⟨t,83,.none⟩ fv) t { M with fly:=fly } p'∧p'.k=p.k∧p'.b=p.b∧ae p.F p'.F w (w1.setCell ⟨t,83,.none⟩ fv):=by
 have A:=(h.hdM hm1 h.cF (by decide)).setCell_same 83 fv
 rw [show (p.tv M).set 83 fv=TP.tv { p with fv:=fv } { M with fly:=fly } from tgV_fly h.len fv] at A
 have:=h.flew hm1 hf ((ae.refl _ _).one_set 83 fv) A
 exact ⟨_,this.1,rfl,rfl,this.2⟩
theorem aa.putD (h:aa w0 w t M p) {dv:Value} {dn:List Bool} (hm1:ae (ObX p.dv) (ObX dv) w w1) (hf:ek 4 1 w1 dv dn.length (dn.map Value.bool)) :
 ∃ p',aa w0 (w1.setCell ⟨t,85,.none⟩ dv) t { M with dn:=dn } p'∧p'.k=p.k∧p'.b=p.b∧ae p.F p'.F w (w1.setCell ⟨t,85,.none⟩ dv):=by
 have A:=(h.hdM hm1 h.cD (by decide)).setCell_same 85 dv
 rw [show (p.tv M).set 85 dv=TP.tv { p with dv:=dv } { M with dn:=dn } from tgV_dn h.len dv] at A
 have:=h.gave hm1 hf ((ae.refl _ _).one_set 85 dv) A
 exact ⟨_,this.1,rfl,rfl,this.2⟩
theorem aa.at83 (h:aa w0 w t M p) (hm1:ae (ObX p.fv) F' w w1):w1.cell? ⟨t,83,.none⟩=some p.fv∧w1.frozen? ⟨t,83,.none⟩=false:=by
 have A:=h.hdM hm1 h.cF (by decide)
 exact ⟨(A.cell 83).trans (tgV_at h.len _ _ _ _ _).1,(A.there 83 1 (by rw [show (p.tv M).length=87 from tgV_len h.len];decide) 0 (by decide)).2⟩
theorem aa.at85 (h:aa w0 w t M p) (hm1:ae (ObX p.dv) F' w w1):w1.cell? ⟨t,85,.none⟩=some p.dv∧w1.frozen? ⟨t,85,.none⟩=false:=by
 have A:=h.hdM hm1 h.cD (by decide)
 exact ⟨(A.cell 85).trans (tgV_at h.len _ _ _ _ _).2.2.1,(A.there 85 1 (by rw [show (p.tv M).length=87 from tgV_len h.len];decide) 0 (by decide)).2⟩
end
theorem drop_any {w0 w:World} {t:Nat} {M:TM} {p:TP} (h:aa w0 w t M p) (i:Nat) (hi:i<M.fly.length) (hn:M.fly.length≤1000000) :
 Calls Tryz.prog 58 #[.pointer (some ⟨t,0,.none⟩),.int .i64 i] w fun r w'=>r=.returned (.tuple #[])∧∃ p',aa w0 w' t (ww M i) p'∧p'.k=p.k∧p'.b=p.b∧ae p.F p'.F w w':=by
 obtain ⟨n,hnl⟩:∃ n,M.fly.length=n:=⟨_,rfl⟩
 obtain ⟨g,cap,cur,hfv,hg,hnc,hcm,_,_⟩:=h.fl.some (by omega)
 have HT:Hid (aa w0 w t M p):=h
 have HFV:Hid (p.fv=.slice (some ⟨g,0,.none⟩) n cap):=by rw [hnl] at hfv;exact hfv
 have HO:Hid (ek 116 6 w (.slice (some ⟨g,0,.none⟩) n cap) n (gu M.fly)):=by have:=h.fl;rw [hfv] at this;rw [hnl] at this;exact this
 have c83:w.cell? ⟨t,83,.none⟩=some (.slice (some ⟨g,0,.none⟩) n cap):=by have:=h.cells.2.1;rw [hfv,hnl] at this;exact this
 rw [hnl] at hi hn
 have HN:Hid (M.fly.length=n):=hnl
 clear h hfv hg hnl hcm
 have hi':(i:Int)<n:=by omega
 go_enter Tryz.func58,Tryz.ntmps58
 go_wp2_with fail
 refine (delete_any g cap n i (gu M.fly) w HO.out (msgs_one _) hi).mono ?_
 rintro r W1 ⟨rfl,ho,hm⟩
 have hmo:ae (ObX p.fv) (ObX (.slice (some ⟨g,0,.none⟩) (n - 1) cap)) w W1:=by
  rw [HFV.out]
  exact hm.mono (fun q e=>by rw [show q=g from e];rfl) (fun q e=>.inl e)
 obtain ⟨p',t',k',b',m'⟩:=HT.out.putF hmo (fly:=M.fly.eraseIdx i) (by rw [List.length_eraseIdx,if_pos (by rw [HN.out];exact hi),HN.out,msgs_erase];exact ho)
 have q83:=HT.out.at83 hmo
 rw [HFV.out] at q83
 obtain ⟨d83,f83⟩:=q83
 have HR:Hid (∃ p',aa w0 (W1.setCell ⟨t,83,.none⟩ (.slice (some ⟨g,0,.none⟩) (n - 1) cap)) t (ww M i) p'∧p'.k=p.k∧p'.b=p.b∧ae p.F p'.F w (W1.setCell ⟨t,83,.none⟩ (.slice (some ⟨g,0,.none⟩) (n - 1) cap))):=⟨p',t',k',b',m'⟩
 clear ho hm hmo t' k' b' m' HO HT HFV
 go_wp2
 refine bodyPost_end (v:=.tuple #[]) ?_ rfl ?_
 ·simp [results,Tryz.results58,go_sem]
 ·exact ⟨rfl,HR.out⟩
theorem lose_any {w0 w:World} {t:Nat} {M:TM} {p:TP} (h:aa w0 w t M p) (i:Int) (hn:M.fly.length≤1000000) :
 Calls Tryz.prog 62 #[.pointer (some ⟨t,0,.none⟩),.int .i64 i] w fun r w'=>r=.returned (ai (ug M i).1)∧∃ p',aa w0 w' t (ug M i).2 p'∧p'.k=p.k∧p'.b=p.b∧ae p.F p'.F w w':=by
 have HF:Hid (Calls Tryz.prog 56 #[.pointer (some ⟨t,0,.none⟩),.int .i64 i] w fun r w'=>r=.returned (.bool (decide (0≤i) && decide (i<M.fly.length)))∧w'=w):=h.fliesB i
 have HT:Hid (aa w0 w t M p):=h
 clear h
 by_cases hi:0≤i∧i<M.fly.length
 ·rw [show (decide (0≤i) && decide (i<(M.fly.length:Int)))=true by simp;omega] at HF
  have HX:Hid (ug M i=(0,ww M i.toNat)):=by show _=_;unfold ug;rw [if_pos hi]
  have HD:Hid (Calls Tryz.prog 58 #[.pointer (some ⟨t,0,.none⟩),.int .i64 i] w fun r w'=>r=.returned (.tuple #[])∧∃ p',aa w0 w' t (ww M i.toNat) p'∧p'.k=p.k∧p'.b=p.b∧ae p.F p'.F w w'):=by
   have:=drop_any HT.out i.toNat (by omega) hn
   rwa [show ((i.toNat:Nat):Int)=i by omega] at this
  clear hi hn
  go_enter Tryz.func62,Tryz.ntmps62
  go_wp2_with fail
  refine HF.out.mono ?_
  rintro r W ⟨rfl,hW⟩
  obtain rfl:=hW.symm
  go_wp2_with fail
  refine HD.out.mono ?_
  rintro r W2 ⟨rfl,p',t',k',b',m'⟩
  have HR:Hid (∃ p',aa w0 W2 t (ww M i.toNat) p'∧p'.k=p.k∧p'.b=p.b∧ae p.F p'.F w W2):=⟨p',t',k',b',m'⟩
  clear t' k' b' m'
  go_wp2
  go_ret
  exact ⟨by rw [HX.out];rfl,by rw [HX.out];exact HR.out⟩
 ·rw [show (decide (0≤i) && decide (i<(M.fly.length:Int)))=false by simp;omega] at HF
  have HX:Hid (ug M i=(8,M)):=by show _=_;unfold ug;rw [if_neg hi]
  clear hi hn
  go_enter Tryz.func62,Tryz.ntmps62
  go_wp2_with fail
  refine HF.out.mono ?_
  rintro r W ⟨rfl,hW⟩
  obtain rfl:=hW.symm
  go_wp2
  go_ret
  exact ⟨by rw [HX.out];rfl,p,by rw [HX.out];exact HT.out,rfl,rfl,ae.refl _ _⟩
def atW (W:DataW Unit) (tag:Int):Int:=match W.atKey (.int .i64 tag) (.lit (.int .u64 0)) with
 | .lit (.int _ a)=>a
 | _=>0
theorem aca (M:TM) (tag:Int):xe M tag=atW M.W tag:=rfl
theorem zeroU (w:World):(zeroValue 113).run Tryz.prog w=.ok (.int .u64 0) w:=by kernel_rfl
theorem keyI {tag:Int} (h:(Lit.int .i64 tag).wf=true):Go.keyOf Tryz.prog 3 (.int .i64 tag)=some (.int .i64 tag):=keyOf_int_mk Tryz.underlying3 h
theorem map_look {w:World} {m:Nat} {W:DataW Unit} (h:qo w m W) {tag:Int} (hw:(Lit.int .i64 tag).wf=true) :
 (Instr.lookup 104 (.map (some m)) (.int .i64 tag) true).run Tryz.prog w=.ok (.tuple #[.int .u64 (atW W tag),.bool (Maps.has W (.int .i64 tag))]) w∧(Lit.int .u64 (atW W tag)).wf=true:=by
 obtain ⟨v,ps,hrun,hv⟩:=h.look_ok x9 Tryz.underlying104 (zeroU w) (plainElem_int (H:=Unit) Tryz.underlying113 (by decide)) (keyI hw)
 obtain ⟨c,rfl,hc,hwc⟩:=plainElem_int_inv Tryz.underlying113 hv
 have e:W.atKey (.int .i64 tag) (.lit (.int .u64 0))=.lit (.int .u64 c):=congrArg Prod.fst hc
 have e2:atW W tag=c:=by unfold atW;rw [e]
 rw [e2]
 exact ⟨hrun,hwc⟩
theorem exec_lookup {P:Program} {dst:Option Tmp} {T ty:TypeId} {m x:Operand} {b:Bool} {pos:String} {after:Array Edge} {gd:Option (Nat × Bool)} {a:Act} {w:World} {p k v:Value}
 (law:(Instr.lookup T p k b).run P w=.ok v w) (hm:a.eval m=p) (hx:a.eval x=k):(execOp a.eval ⟨dst,.lookup T m x b,ty,pos,after,gd⟩).run P w=.ok (.value v) w:=by
 unfold execOp;simp only [hm,hx,Sem.run_bind,law,Result.andThen_ok,Sem.run_pure]
theorem map_put {w:World} {m:Nat} {W:DataW Unit} (h:qo w m W) {tag c:Int} (hw:(Lit.int .i64 tag).wf=true) (hc:(Lit.int .u64 c).wf=true) (hn:Maps.size W<1000) :
 ∃ w',(Instr.mapUpdate 104 (.map (some m)) (.int .i64 tag) (.int .u64 c)).run Tryz.prog w=.ok () w'∧qo w' m (W.put (.int .i64 tag) (.lit (.int .u64 c)))∧ae (Is m) (Is m) w w':=by
 obtain ⟨w',h1,h2,h3⟩:=h.store x9 Tryz.underlying104 (by unfold maxLen;omega) (keyI hw) (plainElem_int (H:=Unit) Tryz.underlying113 hc)
 exact ⟨w',h1,map_exact h2,turned_moved h3⟩
theorem map_del {w:World} {m:Nat} {W:DataW Unit} (h:qo w m W) {tag:Int} (hw:(Lit.int .i64 tag).wf=true) (ty:TypeId) :
 ∃ w',(Builtin.delete_ #[104,3] ty #[.map (some m),.int .i64 tag]).run Tryz.prog w=.ok (.tuple #[]) w'∧qo w' m (W.del (.int .i64 tag))∧ae (Is m) (Is m) w w':=by
 obtain ⟨w',h1,h2,h3⟩:=h.drop x9 Tryz.underlying104 (keyI hw) ty
 exact ⟨w',h1,map_exact h2,turned_moved h3⟩
theorem wp_putM {o:Oper} {a:Act} {w w':World} {K:Act→World→Prop} {Q:Exit→Act→World→Prop} (m x v:Operand) (t:TypeId) (hop:o.op=Op.mapUpdate t m x v) {p k u:Value} (hm:a.eval m=p) (hx:a.eval x=k) (hv:a.eval v=u)
 (law:(Instr.mapUpdate t p k u).run Tryz.prog w=.ok () w') (h:K (a.put o.dst undef) w'):o.wp Tryz.prog a w K Q:=by
 unfold Oper.wp
 simp [execOp,hop,hm,hx,hv,law,Result.andThen]
 exact h
theorem wp_delM {o:Oper} {a:Act} {w w':World} {K:Act→World→Prop} {Q:Exit→Act→World→Prop} (m x:Operand) (t k:TypeId) (hop:o.op=Op.call { callee:=Callee.builtin Builtin.delete,args:=#[m,x],argTypes:=#[t,k] }) {p u:Value} (hm:a.eval m=p) (hx:a.eval x=u)
 (law:(Builtin.delete_ #[t,k] o.type #[p,u]).run Tryz.prog w=.ok (.tuple #[]) w') (h:K (a.put o.dst (.tuple #[])) w'):o.wp Tryz.prog a w K Q:=by
 unfold Oper.wp
 simp [execOp,hop,resolve,invoke,builtin,hm,hx,law,Result.andThen]
 exact h
theorem ones_any (x:Int) (h0:0≤x) (h8:x<8) (w:World):Calls Tryz.prog 94 #[.int .u64 x] w fun r w'=>r=.returned (.int .i64 (ones x))∧w'=w:=by
 have h64:∀ y:Int,(y=0∨y=1∨y=2∨y=3∨y=4∨y=5∨y=6∨y=7)→Calls Tryz.prog 120 #[.int .u64 y] w fun r w'=>r=.returned (.int .i64 (ones y))∧w'=w:=by
  rintro y (rfl|rfl|rfl|rfl|rfl|rfl|rfl|rfl)
  all_goals
   go_enter Tryz.func120,Tryz.ntmps120
   go_wp2
   go_ret
   exact ⟨by kernel_rfl,rfl⟩
 have HC:Hid (Calls Tryz.prog 120 #[.int .u64 x] w fun r w'=>r=.returned (.int .i64 (ones x))∧w'=w):=h64 x (by omega)
 clear h64
 go_enter Tryz.func94,Tryz.ntmps94
 go_wp2_with fail
 refine HC.out.mono ?_
 rintro r W ⟨rfl,rfl⟩
 go_wp2
 go_ret
 exact ⟨rfl,rfl⟩
theorem or8 (x k:Int) (h0:0≤x) (h8:x<8) (hk:k=1∨k=2∨k=4):0≤bits .or .u64 x k∧bits .or .u64 x k<8:=by
 rcases (by omega:x=0∨x=1∨x=2∨x=3∨x=4∨x=5∨x=6∨x=7) with rfl|rfl|rfl|rfl|rfl|rfl|rfl|rfl <;> rcases hk with rfl|rfl|rfl <;> exact of_decide_eq_true (by kernel_rfl)
theorem wf_u8 {y:Int} (h0:0≤y) (h8:y<8):(Lit.int .u64 y).wf=true:=by
 rcases (by omega:y=0∨y=1∨y=2∨y=3∨y=4∨y=5∨y=6∨y=7) with rfl|rfl|rfl|rfl|rfl|rfl|rfl|rfl <;> decide
end Go.Proofs.YtpkhdihoijkamaaGreatDoor.U
