/- Several texts of this seat in one: UChange. No statement of the seat is proved here. -/
import Derived.Test.YtpkhdihoijkamaaGreatDoorWT
import Derived.Test.YtpkhdihoijkamaaGreatDoorZA27
import Derived.Test.YtpkhdihoijkamaaGreatDoorZA29
import Derived.Test.YtpkhdihoijkamaaGreatDoorZA30
namespace Go.Proofs.YtpkhdihoijkamaaGreatDoor.U
open Go.ChangeShapes Go.WideShapes Go.ChangeAt Go.RowKit Go.Deep Go.Maps
open Go.Proofs.YtpkhdihoijkamaaGreatDoor.D
theorem key_who {l:List (Int × Int)} (hr:Go.Proofs.YtpkhdihoijkamaaGreatDoor.rf 0 l=0) {x:Int} (hk:Go.Proofs.YtpkhdihoijkamaaGreatDoor.keyOf l x≠0):1≤x∧x≤4:=by
 have main:∀ (l:List (Int × Int)) (p:Int),Go.Proofs.YtpkhdihoijkamaaGreatDoor.rf p l=0→Go.Proofs.YtpkhdihoijkamaaGreatDoor.keyOf l x≠0→1≤x∧x≤4:=by
  intro l
  induction l with
  | nil=>intro p _ h;exact absurd rfl h
  | cons r l ih =>
    intro p h hk
    unfold Go.Proofs.YtpkhdihoijkamaaGreatDoor.rf at h
    split at h
    ·exact absurd h (by decide)
    ·rename_i h1
     split at h
     ·exact absurd h (by decide)
     ·unfold Go.Proofs.YtpkhdihoijkamaaGreatDoor.keyOf at hk
      split at hk
      ·rename_i h2;rw [←h2];omega
      ·exact ih _ h hk
 exact main l 0 hr hk
theorem rf_of_fault {g t h:Int} {l:List (Int × Int)} (hf:Go.Proofs.YtpkhdihoijkamaaGreatDoor.fault g t h l=0):Go.Proofs.YtpkhdihoijkamaaGreatDoor.rf 0 l=0:=by
 unfold Go.Proofs.YtpkhdihoijkamaaGreatDoor.fault at hf
 split at hf
 ·exact absurd hf (by decide)
 ·split at hf
  ·assumption
  ·exact hf
theorem tl_who {s:KS} (hs:s.f=0) (c:CmD) (h0:(c.o s).f=0):∀ q ∈ (c.o s).tl,1≤q.1∧q.1≤4:=by
 intro q hq
 have:=(Go.Proofs.YtpkhdihoijkamaaGreatDoor.do_told (y:=s.y) (op:=c.op) (who:=c.who) (key:=c.key) (new:=c.new) (kind:=c.ty) (st:=c.st) hs h0).known q hq
 exact key_who (rf_of_fault hs) this.2
theorem outS_ok {s:KS} (hs:s.f=0) {c:CmD} (hc:c.f=0) (h0:(c.o s).f=0):(outS (c.o s)).f=0:=Go.Proofs.YtpkhdihoijkamaaGreatDoor.do_valid (y:=s.y) (st:=c.st) hs (Go.Proofs.YtpkhdihoijkamaaGreatDoor.cmd_ok hc) h0
theorem outS_len {s:KS} (hs:s.f=0) {c:CmD} (hc:c.f=0):(c.o s).l.length≤4:=by
 by_cases h0:(c.o s).f=0
 ·exact KS.len (s:=outS (c.o s)) (outS_ok hs hc h0)
 ·have:=Go.Proofs.YtpkhdihoijkamaaGreatDoor.do_refused s.g s.t s.hd s.y s.l c.op c.who c.key c.new c.ty c.st h0
  unfold CmD.o
  rw [this]
  exact Nat.zero_le _
theorem doU_any {w0 w:World} {t:Nat} {M:TM} {p:TP} (h:aa w0 w t M p) {a1:Option Addr} (c1:Nat) (R:iy w p a1 M.s) (c:CmD) (hc:c.f=0) :
 Calls Tryz.prog 106 #[.agg (M.s.vs a1 c1).toArray,.agg c.vs.toArray] w fun r w'=>∃ a2 c2 a3 n3 c3,r=.returned (.tuple #[.agg ((outS (c.o M.s)).vs a2 c2).toArray,.slice a3 n3 c3,ai (c.o M.s).f])∧iy w' p a2 (outS (c.o M.s)) ∧
  Go.Proofs.YtpkhdihoijkamaaGreatDoor.Row w' a3 n3 (c.o M.s).tl∧(∀ ad,a3=some ad→n3≠0→¬p.F ad.block)∧Below w.heap.size w w':=by
 have hl:=KS.len h.kk.kp.ok
 refine (Go.Proofs.YtpkhdihoijkamaaGreatDoor.do_any M.s.g M.s.t M.s.hd a1 M.s.l.length c1 M.s.y M.s.l c.op c.who c.key c.new c.ty c.at' c.st c.da c.wa w R.row (by omega) (Go.Proofs.YtpkhdihoijkamaaGreatDoor.fault_g h.kk.kp.ok)).mono ?_
 rintro r w' ⟨⟨a2,n2,c2,a3,n3,c3,rfl,hr2,hr3,hn2,hn3⟩,hb⟩
 have e2:(c.o M.s).l.length=n2:=hr2.1
 subst e2
 refine ⟨a2,c2,a3,n3,c3,rfl,⟨hr2,fun q e h0 f=>?_,Nat.le_trans (outS_len h.kk.kp.ok hc) (by decide)⟩,hr3,fun ad e h0 f=>?_,hb⟩
 ·exact hn2 q.block (h.foot _ f) (fun h1=>absurd rfl h1) h0 q e rfl
 ·exact hn3 ad.block (h.foot _ f) (fun h1=>absurd rfl h1) h0 ad e rfl
theorem lessU_any {w:World} {p:TP} {s s':KS} {a a':Option Addr} (c c':Nat) (R:iy w p a s) (R':iy w p a' s') :
 Calls Tryz.prog 107 #[.agg (s.vs a c).toArray,.agg (s'.vs a' c').toArray,.func (.func 21) #[] #[]] w fun e w'=>e=.returned (.bool (decide (xk s.t s.hd s.l s'.t s'.hd s'.l)))∧Below w.heap.size w w' :=
 Go.Proofs.YtpkhdihoijkamaaGreatDoor.less_any s.g s.t s.hd a s.l.length c s.y s.l s'.g s'.t s'.hd a' s'.l.length c' s'.y s'.l w R.row R'.row
theorem acd (L:Nat→List Int) (tl:List (Int × Int)) (q:Nat) (h:q<tl.length):ay L (tl.take (q+1))=vz (ay L (tl.take q)) tl[q]:=by
 unfold ay
 rw [List.take_succ_eq_append_getElem h,List.foldl_append]
 rfl
theorem addL_len {l:List Int} (h:l.length≤5) (x:Int):(ni l x).length≤5:=by
 unfold ni
 split
 ·exact h
 ·rw [List.length_append,List.length_drop];simp;omega
theorem tell1_len {L:Nat→List Int} (h:∀ j,j<4→(L j).length≤5) (x:Int × Int):∀ j,j<4→(vz L x j).length≤5:=by
 intro j hj
 unfold vz
 split
 ·unfold upd
  split
  ·rename_i e;rw [←e];exact addL_len (h _ hj) _
  ·exact h j hj
 ·exact h j hj
theorem acu:∀ (tl:List (Int × Int)) {L:Nat→List Int},(∀ j,j<4→(L j).length≤5)→∀ j,j<4→(ay L tl j).length≤5
 | [],_,h=>h
 | x :: tl,_,h=>acu tl (tell1_len h x)
theorem begin2_L (M:TM) (s:KS):(ve M s).2.L=M.L:=by
 unfold ve j5 dx
 split <;> rfl
theorem begin1_L (M:TM) (s:KS):(uk M s).2.L=M.L:=by
 unfold uk
 split
 ·rfl
 ·split
  ·rw [begin2_L];rfl
  ·rfl
theorem beginM_L (M:TM) (s:KS):(gq M s).2.L=M.L:=by
 unfold gq
 split
 ·rw [begin1_L];unfold dx;split <;> rfl
 ·rfl
theorem change1_L (M:TM) (o:Out):(ol M o).2.L=M.L:=by
 unfold ol
 split
 ·exact beginM_L M _
 ·rfl
theorem tl_short {tl:List (Int × Int)} (h:tl.Pairwise fun a b=>a.1≠b.1) (hw:∀ q ∈ tl,1≤q.1∧q.1≤4):tl.length≤1000:=by
 have h1:(tl.map fun q=>q.1.toNat - 1).Nodup:=by
  rw [List.nodup_iff_pairwise_ne,List.pairwise_map]
  exact (List.pairwise_iff_forall_sublist.2 fun {a b} hs=>by
   have hne:=List.pairwise_iff_forall_sublist.1 h hs
   have ha:=hw a (hs.subset (by simp))
   have hb:=hw b (hs.subset (by simp))
   omega)
 have:=nodup_le 4 _ h1 (fun x hx=>by
  obtain ⟨q,hq,rfl⟩:=List.mem_map.1 hx
  have:=hw q hq
  omega)
 rw [List.length_map] at this
 omega
theorem tellB_any {w0 w:World} {t:Nat} {M:TM} {p:TP} (h:aa w0 w t M p) (x:Int × Int) (hx:1≤x.1∧x.1≤4) (hl:∀ j,j<4→(M.L j).length≤5) :
 Calls Tryz.prog 108 #[Go.Proofs.YtpkhdihoijkamaaGreatDoor.bx p.A p.N p.C,.agg #[.int .i64 x.1,.int .i64 x.2]] w fun r w'=>∃ A N C,r=.returned (Go.Proofs.YtpkhdihoijkamaaGreatDoor.bx A N C)∧Below w.heap.size w w' ∧
  ∃ w2 p2,(Instr.storeAt 103 (.pointer (some ⟨t,79,.none⟩)) (Go.Proofs.YtpkhdihoijkamaaGreatDoor.bx A N C)).run Tryz.prog w'=.ok () w2∧aa w0 w2 t { M with L:=vz M.L x } p2∧p2.k=p.k∧p2.b=p.b∧ae p.F p2.F w w2∧ae (Is t) (Is t) w' w2:=by
 refine (Go.Proofs.YtpkhdihoijkamaaGreatDoor.add_fresh p.A p.N p.C M.L (x.1.toNat - 1) x.1 x.2 0 w (by omega) (by omega) h.bx (Nat.zero_le _) (fun j hj=>by have:=hl j hj;omega)).mono ?_
 rintro r w' ⟨A,N,C,rfl,hB,hb,hf⟩
 obtain ⟨w2,p2,h1,h2,h3,h4,h5,h6⟩:=h.putB hb hB (fun j _=>hf j)
 refine ⟨A,N,C,rfl,hb,w2,p2,h1,?_,h4,h3,h5,h6⟩
 unfold vz
 rw [if_pos hx]
 exact h2
set_option maxRecDepth 100000 in
set_option maxHeartbeats 32000000 in
theorem change_any {w0 wa:World} {t:Nat} {Ma:TM} {pa:TP} (h:aa w0 wa t Ma pa) (hL:K.Laid w0) (c:CmD) (hc:c.f=0) (hl5:∀ j,j<4→(Ma.L j).length≤5) :
 Calls Tryz.prog 72 #[.pointer (some ⟨t,0,.none⟩),.agg c.vs.toArray] wa fun r w'=>r=.returned (ai (lu Ma c).1)∧∃ p',aa w0 w' t (lu Ma c).2 p'∧p'.k=pa.k∧p'.b=pa.b∧ae pa.F p'.F wa w':=by
 obtain ⟨X,hX,a0,bX,sX⟩:=Go.Proofs.YtpkhdihoijkamaaGreatDoor.D.one wa (.cells c.vs.toArray 24)
 have A3:At X wa.heap.size c.vs 24:=a0
 have HTa:Hid (aa w0 X t Ma pa):=h.later bX
 have HMa:Hid (ae pa.F pa.F wa X):=ae.of bX (Nat.le_refl _)
 have HP:Hid (K.Laid w0∧c.f=0∧(∀ j,j<4→(Ma.L j).length≤5)):=⟨hL,hc,hl5⟩
 clear a0 bX sX h hL hc hl5
 go_enter Tryz.func72,Tryz.ntmps72
 go_upto_region 1 with fail
 rw [←hX]
 clear hX
 obtain ⟨b3,hb3⟩:∃ b3,wa.heap.size=b3:=⟨_,rfl⟩
 rw [hb3] at A3 ⊢
 clear hb3
 go_wp2_with fail
 refine HTa.out.st.mono ?_
 rintro r W1 ⟨a1,c1,rfl,r1,ha1,b1⟩
 obtain ⟨V,hst,A5,bV⟩:=newS Ma.s a1 c1 W1
 have HST:Hid ((Instr.storeAt 36 (.pointer (some ⟨W1.heap.size,0,.none⟩)) (.agg (Ma.s.vs a1 c1).toArray)).run Tryz.prog (W1.alloc (.cells #[.int .i64 0,.slice .none 0 0,.int .i64 0,.int .i64 0,.bool false] 36))=.ok () V):=hst
 replace HTa:Hid (aa w0 V t Ma pa):=(HTa.out.later b1).later bV
 replace HMa:Hid (ae pa.F pa.F wa V):=(HMa.out.trans (ae.of b1 (Nat.le_refl _))).trans (ae.of bV (Nat.le_refl _))
 have HR1:Hid (iy V pa a1 Ma.s):=r1.later bV
 have HLC:Hid ((Instr.loadAt 24 (.pointer (some ⟨b3,0,.none⟩))).run Tryz.prog V=.ok (.agg c.vs.toArray) V):=vv ((A3.later b1 A3.lt).later bV (A3.later b1 A3.lt).lt)
 clear hst b1 bV r1 A3 ha1
 go_upto_region 2 with (with_reducible refine cu HST.out rfl rfl ?_)
 obtain ⟨c5,hc5⟩:∃ c5,W1.heap.size=c5:=⟨_,rfl⟩
 rw [hc5] at A5 ⊢
 have HLS:Hid ((Instr.loadAt 36 (.pointer (some ⟨c5,0,.none⟩))).run Tryz.prog V=.ok (.agg (Ma.s.vs a1 c1).toArray) V):=jk A5
 clear hc5 HST
 go_wp2_with (first|with_reducible refine ak HLS.out rfl rfl ?_|with_reducible refine ak HLC.out rfl rfl ?_)
 refine (doU_any HTa.out c1 HR1.out c HP.out.2.1).mono ?_
 rintro r W2 ⟨a2,c2,a3,n3,c3,rfl,r2,hr3,ho3,b2⟩
 obtain ⟨V2,hst,A6,bV⟩:=newS (outS (c.o Ma.s)) a2 c2 W2
 have HST:Hid ((Instr.storeAt 36 (.pointer (some ⟨W2.heap.size,0,.none⟩)) (.agg ((outS (c.o Ma.s)).vs a2 c2).toArray)).run Tryz.prog (W2.alloc (.cells #[.int .i64 0,.slice .none 0 0,.int .i64 0,.int .i64 0,.bool false] 36))=.ok () V2):=hst
 have hoff6:¬pa.F W2.heap.size:=fun f=>by have:=(HTa.out.later b2).foot _ f;omega
 replace HTa:Hid (aa w0 V2 t Ma pa):=(HTa.out.later b2).later bV
 replace HMa:Hid (ae pa.F pa.F wa V2):=(HMa.out.trans (ae.of b2 (Nat.le_refl _))).trans (ae.of bV (Nat.le_refl _))
 replace HR1:Hid (iy V2 pa a1 Ma.s):=(HR1.out.later b2).later bV
 have HR2:Hid (iy V2 pa a2 (outS (c.o Ma.s))):=r2.later bV
 have HR3:Hid (Go.Proofs.YtpkhdihoijkamaaGreatDoor.Row V2 a3 n3 (c.o Ma.s).tl∧(∀ ad,a3=some ad→n3≠0→¬pa.F ad.block)):=⟨hr3.later bV,ho3⟩
 replace A5:At V2 c5 (Ma.s.vs a1 c1) 36:=(A5.later b2 A5.lt).later bV (A5.later b2 A5.lt).lt
 have HLS5:Hid ((Instr.loadAt 36 (.pointer (some ⟨c5,0,.none⟩))).run Tryz.prog V2=.ok (.agg (Ma.s.vs a1 c1).toArray) V2):=jk A5
 clear hst b2 bV r2 hr3 ho3 A5 HLS HLC
 go_upto_region 3 with (with_reducible refine cu HST.out rfl rfl ?_)
 obtain ⟨c6,hc6⟩:∃ c6,W2.heap.size=c6:=⟨_,rfl⟩
 rw [hc6] at A6 hoff6 ⊢
 have HA6:Hid (At V2 c6 ((outS (c.o Ma.s)).vs a2 c2) 36∧¬pa.F c6):=⟨A6,hoff6⟩
 have HLS6:Hid ((Instr.loadAt 36 (.pointer (some ⟨c6,0,.none⟩))).run Tryz.prog V2=.ok (.agg ((outS (c.o Ma.s)).vs a2 c2).toArray) V2):=jk A6
 clear hc6 HST A6 hoff6
 by_cases h0:(c.o Ma.s).f=0
 case neg =>
  have HX:Hid (lu Ma c=((c.o Ma.s).f,Ma)):=by show _=_;unfold lu;rw [if_neg h0]
  have HE:Hid (ai (c.o Ma.s).f=.iface 96 (.int .i64 (c.o Ma.s).f)):=ut h0
  rw [HE.out]
  clear h0
  go_wp2
  go_ret
  exact ⟨by rw [HX.out,HE.out];rfl,pa,by rw [HX.out];exact HTa.out,rfl,rfl,HMa.out⟩
 have HX:Hid (lu Ma c=if (ol Ma (c.o Ma.s)).1=0 then (0,{ (ol Ma (c.o Ma.s)).2 with L:=ay (ol Ma (c.o Ma.s)).2.L (c.o Ma.s).tl }) else ol Ma (c.o Ma.s)):=by show _=_;unfold lu;rw [if_pos h0]
 have HTL:Hid (∀ q ∈ (c.o Ma.s).tl,1≤q.1∧q.1≤4):=tl_who HTa.out.kk.kp.ok c h0
 rw [h0,show ai 0=.nilIface from rfl]
 obtain ⟨s2,hs2⟩:∃ s2,outS (c.o Ma.s)=s2:=⟨_,rfl⟩
 have HCH:Hid (ol Ma (c.o Ma.s)=if xk Ma.s.t Ma.s.hd Ma.s.l s2.t s2.hd s2.l then gq Ma s2 else (vo Ma Ma.e s2,j5 Ma Ma.e s2)):=by show _=_;rw [←hs2];rfl
 obtain ⟨tl,htl⟩:∃ tl,(c.o Ma.s).tl=tl:=⟨_,rfl⟩
 rw [hs2] at HR2 HA6 HLS6
 rw [htl] at HR3 HTL HX
 have HLN:Hid (n3=tl.length∧tl.length≤1000):=by
  refine ⟨HR3.out.1.1.symm,?_⟩
  rw [←htl]
  have:=(Go.Proofs.YtpkhdihoijkamaaGreatDoor.do_told (y:=Ma.s.y) (op:=c.op) (who:=c.who) (key:=c.key) (new:=c.new) (kind:=c.ty) (st:=c.st) HTa.out.kk.kp.ok h0).once
  exact tl_short this (tl_who HTa.out.kk.kp.ok c h0)
 obtain ⟨C1,hC1⟩:∃ C1,ol Ma (c.o Ma.s)=C1:=⟨_,rfl⟩
 have HC1:Hid (C1.2.L=Ma.L):=by show _=_;rw [←hC1];exact change1_L _ _
 rw [hC1] at HX HCH
 clear h0 hs2 htl hC1
 go_wp2_with (first|with_reducible refine ak HLS5.out rfl rfl ?_|with_reducible refine ak HLS6.out rfl rfl ?_)
 refine (lessU_any c1 c2 HR1.out HR2.out).mono ?_
 rintro r W3 ⟨rfl,b3'⟩
 replace HTa:Hid (aa w0 W3 t Ma pa):=HTa.out.later b3'
 replace HMa:Hid (ae pa.F pa.F wa W3):=HMa.out.trans (ae.of b3' (Nat.le_refl _))
 replace HR2:Hid (iy W3 pa a2 s2):=HR2.out.later b3'
 replace HR3:Hid (Go.Proofs.YtpkhdihoijkamaaGreatDoor.Row W3 a3 n3 tl∧(∀ ad,a3=some ad→n3≠0→¬pa.F ad.block)):=⟨HR3.out.1.later b3',HR3.out.2⟩
 replace HA6:Hid (At W3 c6 (s2.vs a2 c2) 36∧¬pa.F c6):=⟨HA6.out.1.later b3' HA6.out.1.lt,HA6.out.2⟩
 clear b3' HLS5 HLS6 HR1
 by_cases hls:xk Ma.s.t Ma.s.hd Ma.s.l s2.t s2.hd s2.l
 ·rw [if_pos hls] at HCH
  have hdec:decide (xk Ma.s.t Ma.s.hd Ma.s.l s2.t s2.hd s2.l)=true:=by simpa using hls
  rw [hdec]
  have HLS6:Hid ((Instr.loadAt 36 (.pointer (some ⟨c6,0,.none⟩))).run Tryz.prog W3=.ok (.agg (s2.vs a2 c2).toArray) W3):=jk HA6.out.1
  clear hls hdec
  go_wp2_with (with_reducible refine ak HLS6.out rfl rfl ?_)
  refine (ac8 HTa.out HP.out.1 s2 a2 c2 HR2.out).mono ?_
  rintro r w ⟨rfl,p,t2,k2,b2,m2⟩
  rw [←HCH.out] at t2 ⊢
  have HT:Hid (aa w0 w t C1.2 p):=t2
  have HKB:Hid (p.k=pa.k∧p.b=pa.b):=⟨k2,b2⟩
  have HR4:Hid (Go.Proofs.YtpkhdihoijkamaaGreatDoor.Row w a3 n3 tl∧(∀ ad,a3=some ad→n3≠0→¬p.F ad.block)):=⟨xc HR3.out.1 m2 HR3.out.2,fun ad e hn=>m2.not (yo HR3.out.1 hn ad e) (HR3.out.2 ad e hn)⟩
  replace HMa:Hid (ae pa.F p.F wa w):=HMa.out.trans m2
  clear t2 k2 b2 m2 HR3 HR2 HA6 HTa HCH
  by_cases hf:C1.1=0
  case neg =>
   rw [if_neg hf] at HX
   have HE:Hid (ai C1.1=.iface 96 (.int .i64 C1.1)):=ut hf
   rw [HE.out]
   clear hf
   go_wp2
   go_ret
   exact ⟨by rw [HX.out,HE.out];rfl,p,by rw [HX.out];exact HT.out,HKB.out.1,HKB.out.2,HMa.out⟩
  rw [if_pos hf] at HX
  rw [hf,show ai 0=.nilIface from rfl]
  have hn3:n3≤1000:=by rw [HLN.out.1];exact HLN.out.2
  clear hf
  go_wp2
  go_loopw [42] (fun i wr=>∃ q:Nat,q≤n3∧i=.int .i64 q∧∃ pq,aa w0 wr t { C1.2 with L:=ay C1.2.L (tl.take q) } pq∧pq.k=p.k∧pq.b=p.b∧ae p.F pq.F w wr∧Go.Proofs.YtpkhdihoijkamaaGreatDoor.Row wr a3 n3 tl∧(∀ ad,a3=some ad→n3≠0→¬pq.F ad.block)) (fun i _=>n3 - (intOf i).toNat)
  case atStart=>exact ⟨0,Nat.zero_le _,rfl,p,HT.out,rfl,rfl,ae.refl _ _,HR4.out.1,HR4.out.2⟩
  case round =>
   clear HT HR4
   obtain ⟨q,hq,rfl,pq,hT,hk,hb,hm,hr,ho⟩:=hrel
   by_cases hlt:q<n3
   ·have hql:q<tl.length:=by rw [←HLN.out.1];exact hlt
    have hqI:(q:Int)<(n3:Int):=by omega
    obtain ⟨b,off,ha3,hcs⟩:=hr.2.2 (by omega)
    have d0:=(hcs q hql).1
    have d1:=(hcs q hql).2
    obtain ⟨x,hx⟩:∃ x,tl[q]=x:=⟨_,rfl⟩
    rw [hx] at d0 d1
    have HXX:Hid (tl[q]=x):=hx
    have HXW:Hid (1≤x.1∧x.1≤4):=HTL.out x (by rw [←hx];exact List.getElem_mem _)
    obtain ⟨Mq,hMq⟩:∃ Mq,({ C1.2 with L:=ay C1.2.L (tl.take q) }:TM)=Mq:=⟨_,rfl⟩
    have HMN:Hid (({ Mq with L:=vz Mq.L x }:TM)={ C1.2 with L:=ay C1.2.L (tl.take (q+1)) }):=by show _=_;rw [acd _ _ _ hql,hx,←hMq]
    have HLL:Hid (∀ j,j<4→(Mq.L j).length≤5):=by rw [←hMq];exact acu _ (by rw [HC1.out];exact HP.out.2.2)
    rw [hMq] at hT
    obtain ⟨Y,hY,a5,b5,s5⟩:=Go.Proofs.YtpkhdihoijkamaaGreatDoor.D.one wr (.cells #[.int .i64 x.1,.int .i64 x.2] 171)
    have A10:At Y wr.heap.size [.int .i64 x.1,.int .i64 x.2] 171:=a5
    have HTq:Hid (aa w0 Y t Mq pq):=hT.later b5
    have HKq:Hid (pq.k=p.k∧pq.b=p.b∧ae p.F pq.F w Y):=⟨hk,hb,hm.trans (ae.of b5 (Nat.le_refl _))⟩
    have HRq:Hid (Go.Proofs.YtpkhdihoijkamaaGreatDoor.Row Y a3 n3 tl∧(∀ ad,a3=some ad→n3≠0→¬pq.F ad.block)):=⟨hr.later b5,ho⟩
    have HQ:Hid (q<n3):=hlt
    clear hq hT hk hb hm hr ho hlt hcs hx hMq a5 b5 s5
    obtain rfl:=ha3
    go_upto_region 13 with fail
    rw [←hY]
    obtain ⟨c10,hc10⟩:∃ c10,wr.heap.size=c10:=⟨_,rfl⟩
    rw [hc10] at A10 ⊢
    clear hY hc10 d0 d1
    refine adk 9 (S:=fun w'=>aa w0 w' t Mq pq∧At w' c10 [.int .i64 x.1,.int .i64 x.2] 171) (by kernel_rfl) ?_
    intro V1 hV bV sV
    replace HTq:Hid (aa w0 V1 t Mq pq):=HTq.out.later bV
    replace HKq:Hid (pq.k=p.k∧pq.b=p.b∧ae p.F pq.F w V1):=⟨HKq.out.1,HKq.out.2.1,HKq.out.2.2.trans (ae.of bV (Nat.le_refl _))⟩
    replace HRq:Hid (Go.Proofs.YtpkhdihoijkamaaGreatDoor.Row V1 (some ⟨b,off,.none⟩) n3 tl∧(∀ ad,some (⟨b,off,.none⟩:Addr)=some ad→n3≠0→¬pq.F ad.block)):=⟨HRq.out.1.later bV,HRq.out.2⟩
    have HS13:Hid (aa w0 V1 t Mq pq∧At V1 c10 [.int .i64 x.1,.int .i64 x.2] 171):=⟨HTq.out,A10.later bV A10.lt⟩
    clear hV bV sV A10
    refine nu (i:=0) (v:=.pointer (some ⟨t,0,.none⟩)) [9,8,7] (by kernel_rfl) rfl (by kernel_rfl) (by kernel_rfl) (by kernel_rfl) (fun _ _ _ h=>h) (.inl ⟨rfl,fun w' hw'=>?_⟩) HS13.out ?_
    ·go_simp
    refine nu (i:=1) (v:=.pointer (some ⟨t,0,.none⟩)) [9,6,4,3,2] (by kernel_rfl) rfl (by kernel_rfl) (by kernel_rfl) (by kernel_rfl) (fun _ _ _ h=>h) (.inl ⟨rfl,fun w' hw'=>?_⟩) HS13.out ?_
    ·go_simp
    refine nu (i:=2) (v:=.pointer (some ⟨t,0,.none⟩)) [9,6,4,3] (by kernel_rfl) rfl (by kernel_rfl) (by kernel_rfl) (by kernel_rfl) (fun _ _ _ h=>h) (.inl ⟨rfl,fun w' hw'=>?_⟩) HS13.out ?_
    ·go_simp
    (try simp [Act.put])
    refine nu (i:=3) (v:=.pointer (some ⟨t,79,.none⟩)) [9,6,4] (by kernel_rfl) rfl (by kernel_rfl) (by kernel_rfl) (by kernel_rfl) (fun _ _ _ h=>h) (.inl ⟨rfl,fun w' hw'=>?_⟩) HS13.out ?_
    ·go_simp
    refine nu (i:=4) (v:=Go.Proofs.YtpkhdihoijkamaaGreatDoor.bx pq.A pq.N pq.C) [9,6] (by kernel_rfl) rfl (by kernel_rfl) (by kernel_rfl) (by kernel_rfl) (fun _ _ _ h=>h) (.inl ⟨rfl,fun w' hw'=>?_⟩) HS13.out ?_
    ·exact jc hw'.1.loadB rfl
    refine nu (i:=5) (v:=.agg #[.int .i64 x.1,.int .i64 x.2]) [9,6] (by kernel_rfl) rfl (by kernel_rfl) (by kernel_rfl) (by kernel_rfl) (fun _ _ _ h=>h) (.inl ⟨rfl,fun w' hw'=>?_⟩) HS13.out ?_
    ·have h0:w'.cell? ⟨c10,0,.none⟩=some (.int .i64 x.1):=hw'.2.cell 0;have h1:w'.cell? ⟨c10,1,.none⟩=some (.int .i64 x.2):=hw'.2.cell 1;go_simp
    (try simp [Act.put])
    refine aa7 (i:=6) (by kernel_rfl) ?_
    refine wpS ?_
    go_wp2_with fail
    refine (tellB_any HTq.out x HXW.out HLL.out).mono ?_
    rintro r Y2 ⟨A,N,C,rfl,hb2,w9,p9,hst,t9,k9,b9,m9,mT⟩
    have HS14:Hid (aa w0 Y2 t Mq pq∧At Y2 c10 [.int .i64 x.1,.int .i64 x.2] 171):=⟨HTq.out.later hb2,HS13.out.2.later hb2 HS13.out.2.lt⟩
    have HST9:Hid ((Instr.storeAt 103 (.pointer (some ⟨t,79,.none⟩)) (Go.Proofs.YtpkhdihoijkamaaGreatDoor.bx A N C)).run Tryz.prog Y2=.ok () w9):=hst
    have HT9:Hid (aa w0 w9 t { C1.2 with L:=ay C1.2.L (tl.take (q+1)) } p9):=by rw [←HMN.out];exact t9
    have HK9:Hid (p9.k=p.k∧p9.b=p.b∧ae p.F p9.F w w9):=⟨k9.trans HKq.out.1,b9.trans HKq.out.2.1,HKq.out.2.2.trans m9⟩
    have HR9:Hid (Go.Proofs.YtpkhdihoijkamaaGreatDoor.Row w9 (some ⟨b,off,.none⟩) n3 tl∧(∀ ad,some (⟨b,off,.none⟩:Addr)=some ad→n3≠0→¬p9.F ad.block)):=⟨xc HRq.out.1 m9 HRq.out.2,fun ad e hn=>m9.not (yo HRq.out.1 hn ad e) (HRq.out.2 ad e hn)⟩
    clear hb2 hst t9 k9 b9 m9 mT HTq HKq HRq HS13
    refine ⟨HS14.out,?_⟩
    (try simp [Act.put])
    refine nu (i:=7) (v:=.pointer (some ⟨t,0,.none⟩)) [9,8] (by kernel_rfl) rfl (by kernel_rfl) (by kernel_rfl) (by kernel_rfl) (fun _ _ _ h=>h) (.inl ⟨rfl,fun w' hw'=>?_⟩) HS14.out ?_
    ·go_simp
    refine nu (i:=8) (v:=.pointer (some ⟨t,79,.none⟩)) [9] (by kernel_rfl) rfl (by kernel_rfl) (by kernel_rfl) (by kernel_rfl) (fun _ _ _ h=>h) (.inl ⟨rfl,fun w' hw'=>?_⟩) HS14.out ?_
    ·go_simp
    (try simp [Act.put])
    refine aa7 (i:=9) (by kernel_rfl) ?_
    refine Go.Proofs.YtpkhdihoijkamaaGreatDoor.D.ma HST9.out rfl rfl rfl rfl ⟨fun h=>absurd rfl h,?_⟩
    clear HST9 HS14
    refine wpL_done (by kernel_rfl) ?_ _
    (try simp [Act.put])
    go_wp2
    go_roundw
    case rel=>exact ⟨q+1,HQ.out,by go_num,p9,HT9.out,HK9.out.1,HK9.out.2.1,HK9.out.2.2,HR9.out.1,HR9.out.2⟩
    case measure=>simp [intOf];have:=HQ.out;omega
   ·obtain rfl:q=n3:=by omega
    have HR:Hid (∃ p',aa w0 wr t (lu Ma c).2 p'∧p'.k=pa.k∧p'.b=pa.b∧ae pa.F p'.F wa wr):=⟨pq,by rw [HX.out];rw [HLN.out.1,List.take_length] at hT;exact hT,hk.trans HKB.out.1,hb.trans HKB.out.2,HMa.out.trans hm⟩
    clear hT hk hb hm hr ho hq
    go_wp2
    go_ret
    exact ⟨by rw [HX.out];rfl,HR.out⟩
 ·rw [if_neg hls] at HCH
  have hdec:decide (xk Ma.s.t Ma.s.hd Ma.s.l s2.t s2.hd s2.l)=false:=by simpa using hls
  rw [hdec]
  clear hls hdec
  go_upto_region 7 with fail
  refine ql (S:=fun w'=>w'.cell? ⟨t,0,.none⟩=some (.pointer (some ⟨pa.k,0,.none⟩))∧At w' c6 (s2.vs a2 c2) 36) (by kernel_rfl) ?_
  intro V7 hV bV sV
  replace HTa:Hid (aa w0 V7 t Ma pa):=HTa.out.later bV
  replace HMa:Hid (ae pa.F pa.F wa V7):=HMa.out.trans (ae.of bV (Nat.le_refl _))
  replace HR2:Hid (iy V7 pa a2 s2):=HR2.out.later bV
  replace HR3:Hid (Go.Proofs.YtpkhdihoijkamaaGreatDoor.Row V7 a3 n3 tl∧(∀ ad,a3=some ad→n3≠0→¬pa.F ad.block)):=⟨HR3.out.1.later bV,HR3.out.2⟩
  replace HA6:Hid (At V7 c6 (s2.vs a2 c2) 36∧¬pa.F c6):=⟨HA6.out.1.later bV HA6.out.1.lt,HA6.out.2⟩
  have HS7:Hid (V7.cell? ⟨t,0,.none⟩=some (.pointer (some ⟨pa.k,0,.none⟩))∧At V7 c6 (s2.vs a2 c2) 36):=⟨HTa.out.cells.1,HA6.out.1⟩
  clear hV bV sV
  refine wpG 0 (.pointer (some ⟨t,0,.none⟩)) HS7.out ?_
  refine wpG 1 (.pointer (some ⟨t,0,.none⟩)) HS7.out ?_
  refine wpG 2 (.pointer (some ⟨t,0,.none⟩)) HS7.out ?_
  (try simp [Act.put])
  refine wpT 3 (.pointer (some ⟨pa.k,0,.none⟩)) (.inl ⟨rfl,fun w' hw'=>?_⟩) HS7.out ?_
  ·have hc:w'.cell? ⟨t,0,.none⟩=some (.pointer (some ⟨pa.k,0,.none⟩)):=hw'.1;go_simp
  refine wpG 4 (.pointer (some ⟨t,0,.none⟩)) HS7.out ?_
  refine wpT 6 (.agg (s2.vs a2 c2).toArray) (.inl ⟨rfl,fun w' hw'=>?_⟩) HS7.out ?_
  ·exact jc (jk hw'.2) rfl
  (try simp [Act.put])
  refine wpA 5 (wpS ?_)
  go_wp2_with fail
  refine HTa.out.ep.mono ?_
  rintro r V5 ⟨rfl,hW⟩
  obtain rfl:=hW.symm
  refine ⟨HS7.out,?_⟩
  (try simp [Act.put])
  refine wpA 7 (wpS ?_)
  go_wp2_with fail
  refine (HTa.out.kp_any HP.out.1 Ma.e s2 a2 c2 HR2.out).mono ?_
  rintro r w ⟨rfl,p,t2,k2,b2,m2⟩
  have HS8:Hid (w.cell? ⟨t,0,.none⟩=some (.pointer (some ⟨pa.k,0,.none⟩))∧At w c6 (s2.vs a2 c2) 36):=⟨by have:=t2.cells.1;rw [k2] at this;exact this,m2.at HA6.out.1 HA6.out.2⟩
  refine ⟨HS8.out,?_⟩
  (try simp [Act.put])
  obtain ⟨v,hv⟩:∃ v,ai (vo Ma Ma.e s2)=v:=⟨_,rfl⟩
  rw [hv]
  have HV:Hid (ai C1.1=v):=by show _=_;rw [HCH.out];exact hv
  rw [show (j5 Ma Ma.e s2)=C1.2 by rw [HCH.out]] at t2
  clear hv
  refine wpG 8 (v) HS8.out ?_
  (try simp [Act.put])
  refine wpZ ?_
  (try simp [Act.put])
  rw [←HV.out]
  clear HS7 HS8 HV
  have HT:Hid (aa w0 w t C1.2 p):=t2
  have HKB:Hid (p.k=pa.k∧p.b=pa.b):=⟨k2,b2⟩
  have HR4:Hid (Go.Proofs.YtpkhdihoijkamaaGreatDoor.Row w a3 n3 tl∧(∀ ad,a3=some ad→n3≠0→¬p.F ad.block)):=⟨xc HR3.out.1 m2 HR3.out.2,fun ad e hn=>m2.not (yo HR3.out.1 hn ad e) (HR3.out.2 ad e hn)⟩
  replace HMa:Hid (ae pa.F p.F wa w):=HMa.out.trans m2
  clear t2 k2 b2 m2 HR3 HR2 HA6 HTa HCH
  by_cases hf:C1.1=0
  case neg =>
   rw [if_neg hf] at HX
   have HE:Hid (ai C1.1=.iface 96 (.int .i64 C1.1)):=ut hf
   rw [HE.out]
   clear hf
   go_wp2
   go_ret
   exact ⟨by rw [HX.out,HE.out];rfl,p,by rw [HX.out];exact HT.out,HKB.out.1,HKB.out.2,HMa.out⟩
  rw [if_pos hf] at HX
  rw [hf,show ai 0=.nilIface from rfl]
  have hn3:n3≤1000:=by rw [HLN.out.1];exact HLN.out.2
  clear hf
  go_wp2
  go_loopw [42] (fun i wr=>∃ q:Nat,q≤n3∧i=.int .i64 q∧∃ pq,aa w0 wr t { C1.2 with L:=ay C1.2.L (tl.take q) } pq∧pq.k=p.k∧pq.b=p.b∧ae p.F pq.F w wr∧Go.Proofs.YtpkhdihoijkamaaGreatDoor.Row wr a3 n3 tl∧(∀ ad,a3=some ad→n3≠0→¬pq.F ad.block)) (fun i _=>n3 - (intOf i).toNat)
  case atStart=>exact ⟨0,Nat.zero_le _,rfl,p,HT.out,rfl,rfl,ae.refl _ _,HR4.out.1,HR4.out.2⟩
  case round =>
   clear HT HR4
   obtain ⟨q,hq,rfl,pq,hT,hk,hb,hm,hr,ho⟩:=hrel
   by_cases hlt:q<n3
   ·have hql:q<tl.length:=by rw [←HLN.out.1];exact hlt
    have hqI:(q:Int)<(n3:Int):=by omega
    obtain ⟨b,off,ha3,hcs⟩:=hr.2.2 (by omega)
    have d0:=(hcs q hql).1
    have d1:=(hcs q hql).2
    obtain ⟨x,hx⟩:∃ x,tl[q]=x:=⟨_,rfl⟩
    rw [hx] at d0 d1
    have HXX:Hid (tl[q]=x):=hx
    have HXW:Hid (1≤x.1∧x.1≤4):=HTL.out x (by rw [←hx];exact List.getElem_mem _)
    obtain ⟨Mq,hMq⟩:∃ Mq,({ C1.2 with L:=ay C1.2.L (tl.take q) }:TM)=Mq:=⟨_,rfl⟩
    have HMN:Hid (({ Mq with L:=vz Mq.L x }:TM)={ C1.2 with L:=ay C1.2.L (tl.take (q+1)) }):=by show _=_;rw [acd _ _ _ hql,hx,←hMq]
    have HLL:Hid (∀ j,j<4→(Mq.L j).length≤5):=by rw [←hMq];exact acu _ (by rw [HC1.out];exact HP.out.2.2)
    rw [hMq] at hT
    obtain ⟨Y,hY,a5,b5,s5⟩:=Go.Proofs.YtpkhdihoijkamaaGreatDoor.D.one wr (.cells #[.int .i64 x.1,.int .i64 x.2] 171)
    have A10:At Y wr.heap.size [.int .i64 x.1,.int .i64 x.2] 171:=a5
    have HTq:Hid (aa w0 Y t Mq pq):=hT.later b5
    have HKq:Hid (pq.k=p.k∧pq.b=p.b∧ae p.F pq.F w Y):=⟨hk,hb,hm.trans (ae.of b5 (Nat.le_refl _))⟩
    have HRq:Hid (Go.Proofs.YtpkhdihoijkamaaGreatDoor.Row Y a3 n3 tl∧(∀ ad,a3=some ad→n3≠0→¬pq.F ad.block)):=⟨hr.later b5,ho⟩
    have HQ:Hid (q<n3):=hlt
    clear hq hT hk hb hm hr ho hlt hcs hx hMq a5 b5 s5
    obtain rfl:=ha3
    go_upto_region 13 with fail
    rw [←hY]
    obtain ⟨c10,hc10⟩:∃ c10,wr.heap.size=c10:=⟨_,rfl⟩
    rw [hc10] at A10 ⊢
    clear hY hc10 d0 d1
    refine adk 9 (S:=fun w'=>aa w0 w' t Mq pq∧At w' c10 [.int .i64 x.1,.int .i64 x.2] 171) (by kernel_rfl) ?_
    intro V1 hV bV sV
    replace HTq:Hid (aa w0 V1 t Mq pq):=HTq.out.later bV
    replace HKq:Hid (pq.k=p.k∧pq.b=p.b∧ae p.F pq.F w V1):=⟨HKq.out.1,HKq.out.2.1,HKq.out.2.2.trans (ae.of bV (Nat.le_refl _))⟩
    replace HRq:Hid (Go.Proofs.YtpkhdihoijkamaaGreatDoor.Row V1 (some ⟨b,off,.none⟩) n3 tl∧(∀ ad,some (⟨b,off,.none⟩:Addr)=some ad→n3≠0→¬pq.F ad.block)):=⟨HRq.out.1.later bV,HRq.out.2⟩
    have HS13:Hid (aa w0 V1 t Mq pq∧At V1 c10 [.int .i64 x.1,.int .i64 x.2] 171):=⟨HTq.out,A10.later bV A10.lt⟩
    clear hV bV sV A10
    refine nu (i:=0) (v:=.pointer (some ⟨t,0,.none⟩)) [9,8,7] (by kernel_rfl) rfl (by kernel_rfl) (by kernel_rfl) (by kernel_rfl) (fun _ _ _ h=>h) (.inl ⟨rfl,fun w' hw'=>?_⟩) HS13.out ?_
    ·go_simp
    refine nu (i:=1) (v:=.pointer (some ⟨t,0,.none⟩)) [9,6,4,3,2] (by kernel_rfl) rfl (by kernel_rfl) (by kernel_rfl) (by kernel_rfl) (fun _ _ _ h=>h) (.inl ⟨rfl,fun w' hw'=>?_⟩) HS13.out ?_
    ·go_simp
    refine nu (i:=2) (v:=.pointer (some ⟨t,0,.none⟩)) [9,6,4,3] (by kernel_rfl) rfl (by kernel_rfl) (by kernel_rfl) (by kernel_rfl) (fun _ _ _ h=>h) (.inl ⟨rfl,fun w' hw'=>?_⟩) HS13.out ?_
    ·go_simp
    (try simp [Act.put])
    refine nu (i:=3) (v:=.pointer (some ⟨t,79,.none⟩)) [9,6,4] (by kernel_rfl) rfl (by kernel_rfl) (by kernel_rfl) (by kernel_rfl) (fun _ _ _ h=>h) (.inl ⟨rfl,fun w' hw'=>?_⟩) HS13.out ?_
    ·go_simp
    refine nu (i:=4) (v:=Go.Proofs.YtpkhdihoijkamaaGreatDoor.bx pq.A pq.N pq.C) [9,6] (by kernel_rfl) rfl (by kernel_rfl) (by kernel_rfl) (by kernel_rfl) (fun _ _ _ h=>h) (.inl ⟨rfl,fun w' hw'=>?_⟩) HS13.out ?_
    ·exact jc hw'.1.loadB rfl
    refine nu (i:=5) (v:=.agg #[.int .i64 x.1,.int .i64 x.2]) [9,6] (by kernel_rfl) rfl (by kernel_rfl) (by kernel_rfl) (by kernel_rfl) (fun _ _ _ h=>h) (.inl ⟨rfl,fun w' hw'=>?_⟩) HS13.out ?_
    ·have h0:w'.cell? ⟨c10,0,.none⟩=some (.int .i64 x.1):=hw'.2.cell 0;have h1:w'.cell? ⟨c10,1,.none⟩=some (.int .i64 x.2):=hw'.2.cell 1;go_simp
    (try simp [Act.put])
    refine aa7 (i:=6) (by kernel_rfl) ?_
    refine wpS ?_
    go_wp2_with fail
    refine (tellB_any HTq.out x HXW.out HLL.out).mono ?_
    rintro r Y2 ⟨A,N,C,rfl,hb2,w9,p9,hst,t9,k9,b9,m9,mT⟩
    have HS14:Hid (aa w0 Y2 t Mq pq∧At Y2 c10 [.int .i64 x.1,.int .i64 x.2] 171):=⟨HTq.out.later hb2,HS13.out.2.later hb2 HS13.out.2.lt⟩
    have HST9:Hid ((Instr.storeAt 103 (.pointer (some ⟨t,79,.none⟩)) (Go.Proofs.YtpkhdihoijkamaaGreatDoor.bx A N C)).run Tryz.prog Y2=.ok () w9):=hst
    have HT9:Hid (aa w0 w9 t { C1.2 with L:=ay C1.2.L (tl.take (q+1)) } p9):=by rw [←HMN.out];exact t9
    have HK9:Hid (p9.k=p.k∧p9.b=p.b∧ae p.F p9.F w w9):=⟨k9.trans HKq.out.1,b9.trans HKq.out.2.1,HKq.out.2.2.trans m9⟩
    have HR9:Hid (Go.Proofs.YtpkhdihoijkamaaGreatDoor.Row w9 (some ⟨b,off,.none⟩) n3 tl∧(∀ ad,some (⟨b,off,.none⟩:Addr)=some ad→n3≠0→¬p9.F ad.block)):=⟨xc HRq.out.1 m9 HRq.out.2,fun ad e hn=>m9.not (yo HRq.out.1 hn ad e) (HRq.out.2 ad e hn)⟩
    clear hb2 hst t9 k9 b9 m9 mT HTq HKq HRq HS13
    refine ⟨HS14.out,?_⟩
    (try simp [Act.put])
    refine nu (i:=7) (v:=.pointer (some ⟨t,0,.none⟩)) [9,8] (by kernel_rfl) rfl (by kernel_rfl) (by kernel_rfl) (by kernel_rfl) (fun _ _ _ h=>h) (.inl ⟨rfl,fun w' hw'=>?_⟩) HS14.out ?_
    ·go_simp
    refine nu (i:=8) (v:=.pointer (some ⟨t,79,.none⟩)) [9] (by kernel_rfl) rfl (by kernel_rfl) (by kernel_rfl) (by kernel_rfl) (fun _ _ _ h=>h) (.inl ⟨rfl,fun w' hw'=>?_⟩) HS14.out ?_
    ·go_simp
    (try simp [Act.put])
    refine aa7 (i:=9) (by kernel_rfl) ?_
    refine Go.Proofs.YtpkhdihoijkamaaGreatDoor.D.ma HST9.out rfl rfl rfl rfl ⟨fun h=>absurd rfl h,?_⟩
    clear HST9 HS14
    refine wpL_done (by kernel_rfl) ?_ _
    (try simp [Act.put])
    go_wp2
    go_roundw
    case rel=>exact ⟨q+1,HQ.out,by go_num,p9,HT9.out,HK9.out.1,HK9.out.2.1,HK9.out.2.2,HR9.out.1,HR9.out.2⟩
    case measure=>simp [intOf];have:=HQ.out;omega
   ·obtain rfl:q=n3:=by omega
    have HR:Hid (∃ p',aa w0 wr t (lu Ma c).2 p'∧p'.k=pa.k∧p'.b=pa.b∧ae pa.F p'.F wa wr):=⟨pq,by rw [HX.out];rw [HLN.out.1,List.take_length] at hT;exact hT,hk.trans HKB.out.1,hb.trans HKB.out.2,HMa.out.trans hm⟩
    clear hT hk hb hm hr ho hq
    go_wp2
    go_ret
    exact ⟨by rw [HX.out];rfl,HR.out⟩
end Go.Proofs.YtpkhdihoijkamaaGreatDoor.U
