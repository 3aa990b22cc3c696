/- Several texts of this seat in one: UEpochW. No statement of the seat is proved here. -/
import Derived.Test.YtpkhdihoijkamaaGreatDoorZA37
import Derived.Test.YtpkhdihoijkamaaGreatDoorZA12
import Derived.LaidEql
namespace Go.Proofs.YtpkhdihoijkamaaGreatDoor.U
open Go.ChangeShapes Go.WideShapes Go.ChangeAt Go.RowKit Go.Deep Go.Maps
open Go.Proofs.YtpkhdihoijkamaaGreatDoor.D
theorem infTg:∃ j,Tryz.prog.info? 107=some j∧j.size≠0:=by
 have h:(Tryz.prog.info? 107).map (·.size)=some 87:=by kernel_rfl
 cases e:Tryz.prog.info? 107 with
 | none=>rw [e] at h;cases h
 | some j=>rw [e] at h;simp at h;exact ⟨j,rfl,by omega⟩
theorem neq_ptr_same (W:World) (t:Nat):(binOp .neq 28 (.pointer (some ⟨t,0,.none⟩)) (.pointer (some ⟨t,0,.none⟩))).run Tryz.prog W=.ok (.bool false) W:=by
 obtain ⟨j,hj,hz⟩:=infTg
 have h:∀ d:Nat,(Op.equalIn (d+1) 28 (.pointer (some ⟨t,0,.none⟩)) (.pointer (some ⟨t,0,.none⟩))).run Tryz.prog W=.ok true W:=fun d=>by
  simp [Op.equalIn,run_underlying Tryz.underlying28,sizeOf,typeInfo,hj,run_sameAddr_same]
 simp only [binOp]
 simp [Op.equal,Op.maxDepth,h 9999]
theorem neq_ptr_other {W:World} {t t':Nat} {l l':List Value} (hne:t'≠t) (h1:At W t l 107) (h2:At W t' l' 107):(binOp .neq 28 (.pointer (some ⟨t',0,.none⟩)) (.pointer (some ⟨t,0,.none⟩))).run Tryz.prog W=.ok (.bool true) W:=by
 obtain ⟨j,hj,hz⟩:=infTg
 have h:∀ d:Nat,(Op.equalIn (d+1) 28 (.pointer (some ⟨t',0,.none⟩)) (.pointer (some ⟨t,0,.none⟩))).run Tryz.prog W=.ok false W:=fun d=>by
  simp [Op.equalIn,run_underlying Tryz.underlying28,sizeOf,typeInfo,hj,hz,run_sameAddr_other W (a:=⟨t',0,.none⟩) (b:=⟨t,0,.none⟩) (by intro e;cases e;exact hne rfl) h2 h1]
 simp only [binOp]
 simp [Op.equal,Op.maxDepth,h 9999]
theorem mayK (s:KS) (a:Option Addr) (c:Nat) (who:Int) (wr:Bool) (w:World) (hr:Go.Proofs.YtpkhdihoijkamaaGreatDoor.Row w a s.l.length s.l) :
 Calls Tryz.prog 21 #[.agg (s.vs a c).toArray,.int .i64 who,.bool wr] w fun e w'=>e=.returned (.bool (jy s.t s.hd s.l who wr))∧Below w.heap.size w w':=zz s.g s.t s.hd a s.l.length c s.y s.l who wr w hr
def lessO (s s':KS) (who:Int):Bool:=(jy s.t s.hd s.l who true && !jy s'.t s'.hd s'.l who true) || (jy s.t s.hd s.l who false && !jy s'.t s'.hd s'.l who false)
def uz (s s':KS) (n:Nat):Bool:=(List.range n).any fun k=>lessO s s' ((k:Int)+1)
theorem lessN_succ (s s':KS) (n:Nat):uz s s' (n+1)=(uz s s' n || lessO s s' ((n:Int)+1)):=by
 unfold uz
 rw [List.range_succ,List.any_append]
 simp
theorem lessN_4 (s s':KS):uz s s' 4=decide (LessS s s'):=by
 rw [Bool.eq_iff_iff,decide_eq_true_iff]
 unfold uz LessS xk
 rw [List.any_eq_true]
 have h1:∀ k:Nat,lessO s s' ((k:Int)+1)=wm s.t s.hd s.l s'.t s'.hd s'.l ((k:Int)+1):=fun k=>by unfold lessO wm;rw [Bool.or_comm]
 constructor
 ·rintro ⟨k,hk,h⟩
  exact ⟨k,by simpa using hk,by rw [←h1];exact h⟩
 ·rintro ⟨k,hk,h⟩
  exact ⟨k,by simpa using hk,by rw [h1];exact h⟩
structure InE (w wr:World) (t b b8 b10:Nat) (M':TM) (p:TP) (s:KS) (a1:Option Addr) (c1:Nat) (a2:Option Addr) (c2:Nat):Prop where
 tg:aa w wr t M' p
 pb:p.b=b
 A8:At wr b8 (s.vs a1 c1) 36
 A10:At wr b10 (M'.s.vs a2 c2) 36
 r8:Go.Proofs.YtpkhdihoijkamaaGreatDoor.Row wr a1 s.l.length s.l
 r10:Go.Proofs.YtpkhdihoijkamaaGreatDoor.Row wr a2 M'.s.l.length M'.s.l
theorem InE.later {w wr wx:World} {t b b8 b10:Nat} {M':TM} {p:TP} {s:KS} {a1:Option Addr} {c1:Nat} {a2:Option Addr} {c2:Nat} (h:InE w wr t b b8 b10 M' p s a1 c1 a2 c2) (hb:Below wr.heap.size wr wx):InE w wx t b b8 b10 M' p s a1 c1 a2 c2 :=
 ⟨h.tg.later hb,h.pb,h.A8.later hb h.A8.lt,h.A10.later hb h.A10.lt,h.r8.later hb,h.r10.later hb⟩
set_option maxRecDepth 100000 in
set_option maxHeartbeats 16000000 in
theorem topEpoch_walk (w:World) (hL:K.Laid w) (a:Option Addr) (n c:Nat) (l:List ig) (h:jh w a n l) (hop:jq l) :
 Calls Tryz.prog 7 #[.slice a n c] w fun r w'=>r=.returned (.bool true)∧Below w.heap.size w w':=by
 obtain rfl:=h.len
 have HL:Hid (K.Laid w):=hL
 have HA:Hid (jh w a l.length l∧jq l):=⟨h,hop⟩
 clear h hop hL
 go_enter Tryz.func7,Tryz.ntmps7
 go_wp2_with fail
 refine (zy w HL.out).mono ?_
 rintro r W0 ⟨rfl,bw0⟩
 have HA0:Hid (jh W0 a l.length l):=HA.out.1.later bw0
 have HB0:Hid (Below w.heap.size w W0):=bw0
 clear bw0
 go_wp2_with fail
 refine (ads a l.length c l 80 W0 HA0.out).mono ?_
 rintro r W1 ⟨rfl,b1⟩
 have HB1:Hid (Below w.heap.size w W1):=HB0.out.trans (b1.mono HB0.out.size)
 clear b1 HA0 HB0
 cases hl:om l 80 with
 | false =>
   clear hl
   go_wp2
   go_ret
   exact ⟨rfl,HB1.out⟩
 | true =>
   have hn:l.length≤80:=by simp [om] at hl;omega
   clear hl
   have HL1:Hid (K.Laid W1):=HL.out.later HB1.out
   go_wp2_with fail
   refine (ada W1 HL1.out).mono ?_
   rintro r W2 ⟨t,p,D,rfl,hT,hS⟩
   have hT0:aa w W2 t (dh D) p:=⟨hT.hd,hT.ok,hT.kk,hT.fl,hT.dl,hT.mp,hT.bx,hT.cK,hT.cT,hT.cF,hT.cD,hT.cM,hT.cB,fun q hq=>⟨Nat.le_trans HB1.out.size (hT.cN q hq).1,(hT.cN q hq).2⟩,HB1.out.trans (hT.bw.mono HB1.out.size)⟩
   have HS0:Hid (SI (dh D)):=hS
   have HT0:Hid (aa w W2 t (dh D) p):=hT0
   obtain ⟨b,hb⟩:∃ b,p.b=b:=⟨_,rfl⟩
   have HB:Hid (p.b=b):=hb
   rw [hb]
   clear hT hT0 hS hb HL1 HB1
   go_wp2_with fail
   go_loopw [5,6] (fun tv i wr=>∃ (k t:Nat) (p:TP),k≤l.length∧tv=.pointer (some ⟨t,0,.none⟩)∧i=.int .i64 k∧aa w wr t (gp (dh D) (l.take k)) p∧SI (gp (dh D) (l.take k))∧TI (gp (dh D) (l.take k)) k∧p.b=b) (fun _ i _=>l.length - (intOf i).toNat)
   case atStart=>exact ⟨0,t,p,Nat.zero_le _,rfl,rfl,HT0.out,HS0.out,openTI D,HB.out⟩
   case round =>
    clear HT0 HB HS0 p
    obtain ⟨k,t,p,hk,rfl,rfl,hT,hS,hI,hb⟩:=hrel
    by_cases hlt:k<l.length
    ·have hki:(k:Int)<(l.length:Int):=by omega
     obtain ⟨b0,off,rfl,hrow0⟩:=HA.out.1.row (by omega)
     have HROW:Hid (w.rangeAt b0 (off+k*19) l[k].vs):=hrow0 k hlt
     have hmem:=List.getElem_mem hlt
     have HX:Hid (l[k].OK w∧(Lit.int .i64 l[k].op).wf=true):=⟨HA.out.1.ok l[k] hmem,HA.out.2 l[k] hmem⟩
     have HNX:Hid (gp (dh D) (l.take (k+1))=(gy (gp (dh D) (l.take k)) l[k]).2):=playL_succ _ _ _ hlt
     have HEP:=Ep.play hS hT.ok l[k]
     obtain ⟨M',hM'⟩:∃ M',gp (dh D) (l.take (k+1))=M':=⟨_,rfl⟩
     rw [hM'] at HNX
     rw [←HNX.out] at HEP
     have HM':Hid (gp (dh D) (l.take (k+1))=M'):=hM'
     clear hM'
     generalize gp (dh D) (l.take k)=M at *
     generalize l[k]=x at *
     have HE:Hid (((gy M x).1=true→M.e<M'.e)∧((gy M x).1=false→Ep M M' (isPower x=true))):=HEP
     have HSI:Hid (SI M'∧TI M' (k+1)):=⟨by rw [HNX.out];exact hS.play hT.ok x,by rw [HNX.out];exact hI.play (hT.mp.tidy x9) x⟩
     have HT:Hid (aa w wr t M p):=hT
     have HI:Hid (SI M∧TI M k∧p.b=b):=⟨hS,hI,hb⟩
     clear hrow0 hmem HEP hT hS hI hb
     go_wp2_with fail
     refine HT.out.ep.mono ?_
     rintro r V1 ⟨rfl,rfl⟩
     go_wp2_with fail
     refine HT.out.st.mono ?_
     rintro r V2 ⟨a1,c1,rfl,r1,_,b2⟩
     obtain ⟨V3,hst,A8,b3⟩:=newS M.s a1 c1 V2
     have HST:Hid ((Instr.storeAt 36 (.pointer (some ⟨V2.heap.size,0,.none⟩)) (.agg (M.s.vs a1 c1).toArray)).run Tryz.prog (V2.alloc (.cells #[.int .i64 0,.slice .none 0 0,.int .i64 0,.int .i64 0,.bool false] 36))=.ok () V3):=hst
     have h8:¬p.F V2.heap.size:=fun f=>by have:=HT.out.foot _ f;have:=b2.size;omega
     replace HT:Hid (aa w V3 t M p):=(HT.out.later b2).later b3
     have HS:Hid (At V3 V2.heap.size (M.s.vs a1 c1) 36∧iy V3 p a1 M.s∧¬p.F V2.heap.size):=⟨A8,r1.later b3,h8⟩
     clear hst A8 b3 r1 b2 h8
     have hrk:=zq HROW.out HT.out.bw
     have HLa:Hid ((Instr.loadAt 62 (.pointer (some ⟨b0,off+k*19,.none⟩))).run Tryz.prog V3=.ok (.agg x.vs.toArray) V3):=G.load_act hrk
     have HP:Hid (Calls Tryz.prog 28 #[.pointer (some ⟨b,0,.none⟩),.pointer (some ⟨t,0,.none⟩),.agg x.vs.toArray] V3 fun r w'=>Played w V3 w' t p (gy M x) r):=by
      have:=play_any HT.out HL.out HI.out.2.1 (by omega) HI.out.1 x HX.out.2 HX.out.1.daz HX.out.1.waz
      rw [HI.out.2.2] at this
      exact this
     clear hrk
     go_wp2_with (first|(with_reducible refine cu HST.out rfl rfl ?_)|(with_reducible refine ak HLa.out rfl rfl ?_))
     clear HST HLa
     obtain ⟨b8,hb8⟩:∃ b8,V2.heap.size=b8:=⟨_,rfl⟩
     rw [hb8] at HS ⊢
     clear hb8
     refine HP.out.mono ?_
     rintro r V4 ⟨t',p',rfl,hT',hb',hm,hwas⟩
     have hMe:(gy M x).2=M':=HNX.out.symm
     rw [hMe] at hT'
     have HB':Hid (p'.b=b):=hb'.trans HI.out.2.2
     have HT':Hid (aa w V4 t' M' p'):=hT'
     have HS4:Hid (At V4 b8 (M.s.vs a1 c1) 36∧Go.Proofs.YtpkhdihoijkamaaGreatDoor.Row V4 a1 M.s.l.length M.s.l):=⟨hm.at HS.out.1 HS.out.2.2,(HS.out.2.1.moved hm).row⟩
     have htl:t<V3.heap.size:=HT.out.hd.lt
     have HR4:Hid (w.rangeAt b0 (off+k*19) x.vs):=HROW.out
     clear HP hb' hT' hm HS HT
     rcases hwas with ⟨hy,rfl⟩|⟨hy,ht,lo,hold⟩
     case inr =>
      have hne:t'≠t:=by omega
      have hq:=neq_ptr_other hne hold HT'.out.hd
      have hle:¬M'.e≤M.e:=by have:=HE.out.1 hy;omega
      clear hy ht htl HE HS4 hMe hold hne
      go_wp2_with fail
      refine HT'.out.ep.mono ?_
      rintro r V5 ⟨rfl,rfl⟩
      go_wp2_with fail
      exact ⟨⟨k+1,t',p',by omega,rfl,by go_num,by rw [HM'.out];exact HT'.out,by rw [HM'.out];exact HSI.out.1,by rw [HM'.out];exact HSI.out.2,HB'.out⟩,by simp [intOf];omega⟩
     case inl =>
      have hq:=neq_ptr_same V4 t'
      have HEP:Hid (Ep M M' (isPower x=true)):=HE.out.2 hy
      clear hy htl HE hMe
      go_wp2_with fail
      refine HT'.out.st.mono ?_
      rintro r V5 ⟨a2,c2,rfl,r2,_,b2⟩
      obtain ⟨V6,hst,A10,b3⟩:=newS M'.s a2 c2 V5
      have HST:Hid ((Instr.storeAt 36 (.pointer (some ⟨V5.heap.size,0,.none⟩)) (.agg (M'.s.vs a2 c2).toArray)).run Tryz.prog (V5.alloc (.cells #[.int .i64 0,.slice .none 0 0,.int .i64 0,.int .i64 0,.bool false] 36))=.ok () V6):=hst
      obtain ⟨b10,hb10⟩:∃ b10,V5.heap.size=b10:=⟨_,rfl⟩
      have HQ0:Hid (InE w V6 t' b b8 b10 M' p' M.s a1 c1 a2 c2):=⟨(HT'.out.later b2).later b3,HB'.out,(HS4.out.1.later b2 HS4.out.1.lt).later b3 (by have:=HS4.out.1.lt;have:=b2.size;omega),by rw [←hb10];exact A10,(HS4.out.2.later b2).later b3,r2.row.later b3⟩
      clear hst A10 b3 r2 b2 HT' HB' HS4 hq
      have HB10:Hid (V5.heap.size=b10):=hb10
      clear hb10
      go_wp2_with (with_reducible refine cu HST.out rfl rfl ?_)
      clear HST
      rw [HB10.out]
      clear HB10
      go_loopw [11,12] (fun lv iv wx=>∃ j:Nat,j≤4∧lv=.bool (uz M.s M'.s j)∧iv=.int .i64 ((j:Int)+1)∧InE w wx t' b b8 b10 M' p' M.s a1 c1 a2 c2) (fun _ iv _=>5 - (intOf iv).toNat)
      case atStart=>exact ⟨0,by omega,rfl,rfl,HQ0.out⟩
      case round =>
       clear HQ0
       obtain ⟨j,hj4,rfl,rfl,hq0⟩:=hrel
       have HQ:Hid (InE w wr t' b b8 b10 M' p' M.s a1 c1 a2 c2):=hq0
       clear hq0
       by_cases hj:j<4
       ·have hle:((j:Int)+1)≤4:=by omega
        have HLN:Hid (uz M.s M'.s (j+1)=(uz M.s M'.s j || lessO M.s M'.s ((j:Int)+1))):=lessN_succ _ _ _
        cases hls:uz M.s M'.s j with
        | true =>
          have HV:Hid (uz M.s M'.s (j+1)=true):=by show _=_;rw [HLN.out,hls];rfl
          go_wp2_with fail
          exact ⟨⟨j+1,by omega,by rw [HV.out],by go_num,HQ.out⟩,by simp [intOf];omega⟩
        | false =>
          have HLD:Hid ((Instr.loadAt 36 (.pointer (some ⟨b8,0,.none⟩))).run Tryz.prog wr=.ok (.agg (M.s.vs a1 c1).toArray) wr):=jk HQ.out.A8
          go_wp2_with (with_reducible refine ak HLD.out rfl rfl ?_)
          refine (mayK M.s a1 c1 ((j:Int)+1) true wr HQ.out.r8).mono ?_
          rintro r X1 ⟨rfl,bb⟩
          replace HQ:Hid (InE w X1 t' b b8 b10 M' p' M.s a1 c1 a2 c2):=HQ.out.later bb
          clear bb HLD
          cases b1:jy M.s.t M.s.hd M.s.l ((j:Int)+1) true with
          | false =>
            have HLD:Hid ((Instr.loadAt 36 (.pointer (some ⟨b8,0,.none⟩))).run Tryz.prog X1=.ok (.agg (M.s.vs a1 c1).toArray) X1):=jk HQ.out.A8
            go_wp2_with (with_reducible refine ak HLD.out rfl rfl ?_)
            refine (mayK M.s a1 c1 ((j:Int)+1) false X1 HQ.out.r8).mono ?_
            rintro r X2 ⟨rfl,bb⟩
            replace HQ:Hid (InE w X2 t' b b8 b10 M' p' M.s a1 c1 a2 c2):=HQ.out.later bb
            clear bb HLD
            cases b3:jy M.s.t M.s.hd M.s.l ((j:Int)+1) false with
            | false =>
              have HV:Hid (uz M.s M'.s (j+1)=false):=by show _=_;rw [HLN.out,hls];simp [lessO,b1,b3]
              go_wp2_with fail
              exact ⟨⟨j+1,by omega,by rw [HV.out],by go_num,HQ.out⟩,by simp [intOf];omega⟩
            | true =>
              have HLD:Hid ((Instr.loadAt 36 (.pointer (some ⟨b10,0,.none⟩))).run Tryz.prog X2=.ok (.agg (M'.s.vs a2 c2).toArray) X2):=jk HQ.out.A10
              go_wp2_with (with_reducible refine ak HLD.out rfl rfl ?_)
              refine (mayK M'.s a2 c2 ((j:Int)+1) false X2 HQ.out.r10).mono ?_
              rintro r X3 ⟨rfl,bb⟩
              replace HQ:Hid (InE w X3 t' b b8 b10 M' p' M.s a1 c1 a2 c2):=HQ.out.later bb
              clear bb HLD
              cases b4:jy M'.s.t M'.s.hd M'.s.l ((j:Int)+1) false with
              | true =>
                have HV:Hid (uz M.s M'.s (j+1)=false):=by show _=_;rw [HLN.out,hls];simp [lessO,b1,b3,b4]
                go_wp2_with fail
                exact ⟨⟨j+1,by omega,by rw [HV.out],by go_num,HQ.out⟩,by simp [intOf];omega⟩
              | false =>
                have HV:Hid (uz M.s M'.s (j+1)=true):=by show _=_;rw [HLN.out,hls];simp [lessO,b1,b3,b4]
                go_wp2_with fail
                exact ⟨⟨j+1,by omega,by rw [HV.out],by go_num,HQ.out⟩,by simp [intOf];omega⟩
          | true =>
            have HLD:Hid ((Instr.loadAt 36 (.pointer (some ⟨b10,0,.none⟩))).run Tryz.prog X1=.ok (.agg (M'.s.vs a2 c2).toArray) X1):=jk HQ.out.A10
            go_wp2_with (with_reducible refine ak HLD.out rfl rfl ?_)
            refine (mayK M'.s a2 c2 ((j:Int)+1) true X1 HQ.out.r10).mono ?_
            rintro r X4 ⟨rfl,bb⟩
            replace HQ:Hid (InE w X4 t' b b8 b10 M' p' M.s a1 c1 a2 c2):=HQ.out.later bb
            clear bb HLD
            cases b2:jy M'.s.t M'.s.hd M'.s.l ((j:Int)+1) true with
            | false =>
              have HV:Hid (uz M.s M'.s (j+1)=true):=by show _=_;rw [HLN.out,hls];simp [lessO,b1,b2]
              go_wp2_with fail
              exact ⟨⟨j+1,by omega,by rw [HV.out],by go_num,HQ.out⟩,by simp [intOf];omega⟩
            | true =>
              have HLD:Hid ((Instr.loadAt 36 (.pointer (some ⟨b8,0,.none⟩))).run Tryz.prog X4=.ok (.agg (M.s.vs a1 c1).toArray) X4):=jk HQ.out.A8
              go_wp2_with (with_reducible refine ak HLD.out rfl rfl ?_)
              refine (mayK M.s a1 c1 ((j:Int)+1) false X4 HQ.out.r8).mono ?_
              rintro r X5 ⟨rfl,bb⟩
              replace HQ:Hid (InE w X5 t' b b8 b10 M' p' M.s a1 c1 a2 c2):=HQ.out.later bb
              clear bb HLD
              cases b3:jy M.s.t M.s.hd M.s.l ((j:Int)+1) false with
              | false =>
                have HV:Hid (uz M.s M'.s (j+1)=false):=by show _=_;rw [HLN.out,hls];simp [lessO,b1,b2,b3]
                go_wp2_with fail
                exact ⟨⟨j+1,by omega,by rw [HV.out],by go_num,HQ.out⟩,by simp [intOf];omega⟩
              | true =>
                have HLD:Hid ((Instr.loadAt 36 (.pointer (some ⟨b10,0,.none⟩))).run Tryz.prog X5=.ok (.agg (M'.s.vs a2 c2).toArray) X5):=jk HQ.out.A10
                go_wp2_with (with_reducible refine ak HLD.out rfl rfl ?_)
                refine (mayK M'.s a2 c2 ((j:Int)+1) false X5 HQ.out.r10).mono ?_
                rintro r X6 ⟨rfl,bb⟩
                replace HQ:Hid (InE w X6 t' b b8 b10 M' p' M.s a1 c1 a2 c2):=HQ.out.later bb
                clear bb HLD
                cases b4:jy M'.s.t M'.s.hd M'.s.l ((j:Int)+1) false with
                | true =>
                  have HV:Hid (uz M.s M'.s (j+1)=false):=by show _=_;rw [HLN.out,hls];simp [lessO,b1,b2,b3,b4]
                  go_wp2_with fail
                  exact ⟨⟨j+1,by omega,by rw [HV.out],by go_num,HQ.out⟩,by simp [intOf];omega⟩
                | false =>
                  have HV:Hid (uz M.s M'.s (j+1)=true):=by show _=_;rw [HLN.out,hls];simp [lessO,b1,b2,b3,b4]
                  go_wp2_with fail
                  exact ⟨⟨j+1,by omega,by rw [HV.out],by go_num,HQ.out⟩,by simp [intOf];omega⟩
       ·have hj5:j=4:=by omega
        subst hj5
        have hkx:¬((4:Nat):Int)+1≤4:=by omega
        have hup:=HEP.out.up
        have hdone:∀ (wy:World),InE w wy t' b b8 b10 M' p' M.s a1 c1 a2 c2→aa w wy t' (gp (dh D) (l.take (k+1))) p'∧SI (gp (dh D) (l.take (k+1)))∧TI (gp (dh D) (l.take (k+1))) (k+1)∧p'.b=b:=fun wy hy=>by
         rw [HM'.out];exact ⟨hy.tg,HSI.out.1,HSI.out.2,hy.pb⟩
        have HD:Hid (∀ (wy:World),InE w wy t' b b8 b10 M' p' M.s a1 c1 a2 c2→aa w wy t' (gp (dh D) (l.take (k+1))) p'∧SI (gp (dh D) (l.take (k+1)))∧TI (gp (dh D) (l.take (k+1))) (k+1)∧p'.b=b):=hdone
        have hlt1:¬M'.e<M.e:=by omega
        rw [lessN_4]
        by_cases hls:LessS M.s M'.s
        ·have hne:¬M'.e=M.e:=HEP.out.less hls
         have hgt:M.e<M'.e:=by omega
         have hneb:(M'.e == M.e)=false:=by simp [hne]
         have hdc:decide (LessS M.s M'.s)=true:=decide_eq_true hls
         rw [hdc]
         clear hls hdc hdone hup
         go_wp2_with fail
         refine HQ.out.tg.ep.mono ?_
         rintro r Y1 ⟨rfl,rfl⟩
         go_wp2_with fail
         refine HQ.out.tg.ep.mono ?_
         rintro r Y1 ⟨rfl,rfl⟩
         go_wp2_with fail
         refine HQ.out.tg.ep.mono ?_
         rintro r Y1 ⟨rfl,rfl⟩
         go_wp2_with fail
         exact ⟨⟨k+1,t',p',by omega,rfl,by go_num,HD.out _ HQ.out⟩,by simp [intOf];omega⟩
        ·have hdc:decide (LessS M.s M'.s)=false:=decide_eq_false hls
         rw [hdc]
         by_cases hgt:M.e<M'.e
         ·have hpow:(x.kind.toList == [112,111,119,101,114])=true:=(HEP.out.rise hgt).resolve_left hls
          have hck:wr.cell? ⟨b0,off+k*19,.none⟩=some (.string x.kind):=by
           have:=zq HR4.out HQ.out.tg.bw 0 (.string x.kind) rfl
           simpa using this
          clear hls hdc hdone hup
          go_wp2_with fail
          refine HQ.out.tg.ep.mono ?_
          rintro r Y1 ⟨rfl,rfl⟩
          go_wp2_with fail
          refine HQ.out.tg.ep.mono ?_
          rintro r Y1 ⟨rfl,rfl⟩
          go_wp2_with fail
          exact ⟨⟨k+1,t',p',by omega,rfl,by go_num,HD.out _ HQ.out⟩,by simp [intOf];omega⟩
         ·clear hls hdc hdone hup
          go_wp2_with fail
          refine HQ.out.tg.ep.mono ?_
          rintro r Y1 ⟨rfl,rfl⟩
          go_wp2_with fail
          refine HQ.out.tg.ep.mono ?_
          rintro r Y1 ⟨rfl,rfl⟩
          go_wp2_with fail
          exact ⟨⟨k+1,t',p',by omega,rfl,by go_num,HD.out _ HQ.out⟩,by simp [intOf];omega⟩
    ·have hkl:k=l.length:=by omega
     subst hkl
     have hki:¬((l.length:Int)<(l.length:Int)):=by omega
     have HQ:Hid (Below w.heap.size w wr):=hT.bw
     clear hT hS hI hb
     go_wp2_with fail
     go_ret
     exact ⟨rfl,HQ.out⟩
end Go.Proofs.YtpkhdihoijkamaaGreatDoor.U
