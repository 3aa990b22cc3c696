/- Several texts of this seat in one: UKept. No statement of the seat is proved here. -/
import Derived.Test.YtpkhdihoijkamaaGreatDoorWT
import Derived.Test.YtpkhdihoijkamaaGreatDoorZA75
import Derived.Test.YtpkhdihoijkamaaGreatDoorZA46
import Derived.Test.YtpkhdihoijkamaaGreatDoorZA41
import Derived.Test.YtpkhdihoijkamaaGreatDoorZA12
namespace Go.Proofs.YtpkhdihoijkamaaGreatDoor.U
open Go.ChangeShapes Go.WideShapes Go.ChangeAt Go.RowKit Go.Deep Go.Maps
open Go.Proofs.YtpkhdihoijkamaaGreatDoor.D
attribute [local go_sem] zc78
structure InK (w0 wr:World) (t:Nat) (M:TM) (p:TP) (n b18:Nat) (g:List G.Rep) (up:List Bool) (ee:Int):Prop where
 pl:Plain w0 wr t M p n
 AG:G.At wr b18 (G.grV g up) 51
 oG:¬p.F b18
 ok:G.GOK g up
 ko:KO ee g M
theorem InK.later {w0 wr wx:World} {t:Nat} {M:TM} {p:TP} {n b18:Nat} {g:List G.Rep} {up:List Bool} {ee:Int} (h:InK w0 wr t M p n b18 g up ee) (hb:Below wr.heap.size wr wx):InK w0 wx t M p n b18 g up ee :=
 ⟨⟨h.pl.tg.later hb,h.pl.ti,h.pl.al⟩,h.AG.later hb h.AG.lt,h.oG,h.ok,h.ko⟩
set_option maxRecDepth 100000 in
set_option maxHeartbeats 16000000 in
theorem topKeptOut_walk (w:World) (hL:K.Laid w) (a:Option Addr) (n c:Nat) (l:List ig) (h:jh w a n l) (hop:jq l) (cm:CmD) (hcop:(Lit.int .i64 cm.op).wf=true) (hcd:cm.da.size≤9223372036854775807) (hcw:cm.wa.size≤9223372036854775807) (pa:Option Addr) (pn pc:Nat) (P:List Int) (hP:dz w pa pn P) :
 Calls Tryz.prog 3 #[.slice a n c,.agg cm.vs.toArray,.slice pa pn pc] w fun r w'=>r=.returned (.bool true)∧Below w.heap.size w w':=by
 obtain rfl:=h.len
 obtain rfl:=hP.1
 have HPN:Hid (dz w pa P.length P):=hP
 clear hP
 obtain ⟨X,hX,a0,bX,sX⟩:=Go.Proofs.YtpkhdihoijkamaaGreatDoor.D.one w (.cells cm.vs.toArray 24)
 have HC0:Hid (At X w.heap.size cm.vs 24):=a0
 have HCO:Hid ((Lit.int .i64 cm.op).wf=true∧cm.da.size≤9223372036854775807∧cm.wa.size≤9223372036854775807):=⟨hcop,hcd,hcw⟩
 have HL:Hid (K.Laid X):=hL.later bX
 have HA:Hid (jh X a l.length l∧jq l):=⟨h.later bX,hop⟩
 have HB0:Hid (Below w.heap.size w X):=bX
 clear h hop hL a0 bX sX hcop hcd hcw
 go_enter Tryz.func3,Tryz.ntmps3
 go_wp2_with fail
 rw [←hX]
 clear hX
 obtain ⟨b3,hb3⟩:∃ b3,w.heap.size=b3:=⟨_,rfl⟩
 have HB3:Hid (w.heap.size=b3):=hb3
 rw [hb3] at HC0 ⊢
 clear hb3
 refine (zy X HL.out).mono ?_
 rintro r W0 ⟨rfl,bw0⟩
 replace HB0:Hid (Below w.heap.size w W0):=HB0.out.trans (bw0.mono HB0.out.size)
 have HL0:Hid (K.Laid W0):=HL.out.later bw0
 have HA0:Hid (jh W0 a l.length l∧jq l):=⟨HA.out.1.later bw0,HA.out.2⟩
 replace HC0:Hid (At W0 b3 cm.vs 24):=HC0.out.later bw0 HC0.out.lt
 clear bw0 HL HA
 go_wp2_with fail
 refine (aa5 W0 HL0.out a l.length c l HA0.out.1 HA0.out.2).mono ?_
 rintro r V ⟨bV,hres⟩
 rcases hres with ⟨hl,rfl⟩|⟨hl,t,p,D,rfl,hA⟩
 ·have HBW:Hid (Below w.heap.size w V):=HB0.out.trans (bV.mono HB0.out.size)
  clear bV hl HL0 HA0 HC0 HCO HB0
  go_wp2
  go_ret
  exact ⟨rfl,HBW.out⟩
 have HN:Hid (l.length≤80):=by show l.length≤80;simp [om] at hl;omega
 have HPL:Hid (Plain W0 V t (gp (dh D) l) p l.length):=hA.plain
 have HC:Hid (At V b3 cm.vs 24∧¬p.F b3):=⟨HC0.out.later bV HC0.out.lt,fun f=>by have:=hA.tg.above b3 f;have:=HC0.out.lt;omega⟩
 generalize gp (dh D) l=M at *
 generalize p.b=b at *
 clear bV hl hA HA0 HC0
 have HPW:Hid (dz W0 pa P.length P):=HPN.out.later HB0.out
 have HE1:Hid (Below w.heap.size w V):=HB0.out.trans (HPL.out.tg.bw.mono HB0.out.size)
 clear HPN
 by_cases hp:40<P.length
 case pos =>
  have hpi:(40:Int)<(P.length:Int):=by omega
  go_wp2
  go_ret
  exact ⟨rfl,HE1.out⟩
 have hpi:decide ((40:Int)<(P.length:Int))=false:=by simp;omega
 have HP40:Hid (P.length≤40):=by show P.length≤40;omega
 clear hp HE1
 have HLC:Hid ((Instr.loadAt 24 (.pointer (some ⟨b3,0,.none⟩))).run Tryz.prog V=.ok (.agg cm.vs.toArray) V):=vv HC.out.1
 have HCK:Hid (Calls Tryz.prog 17 #[.agg cm.vs.toArray] V fun r w'=>r=.returned (ai cm.f)∧Below V.heap.size V w'):=K.aas cm.op cm.who cm.key cm.new cm.ty cm.at' cm.st cm.da cm.wa HCO.out.1 HCO.out.2.1 HCO.out.2.2 V
 go_wp2_with (with_reducible refine ak HLC.out rfl rfl ?_)
 refine HCK.out.mono ?_
 rintro r V1 ⟨rfl,bV⟩
 replace HPL:Hid (Plain W0 V1 t M p l.length):=⟨HPL.out.tg.later bV,HPL.out.ti,HPL.out.al⟩
 replace HC:Hid (At V1 b3 cm.vs 24∧¬p.F b3):=⟨HC.out.1.later bV HC.out.1.lt,HC.out.2⟩
 clear bV HLC HCK
 by_cases hc:cm.f=0
 case neg =>
  rw [ut hc]
  have HBW:Hid (Below w.heap.size w V1):=HB0.out.trans (HPL.out.tg.bw.mono HB0.out.size)
  clear hc
  go_wp2
  go_ret
  exact ⟨rfl,HBW.out⟩
 rw [hc,show ai 0=.nilIface from rfl]
 have HF:Hid (cm.f=0):=hc
 clear hc
 have c30:V1.cell? ⟨b3,0,.none⟩=some (.int .i64 cm.op):=HC.out.1.cell 0
 by_cases h6:6<cm.op
 case pos =>
  have HBW:Hid (Below w.heap.size w V1):=HB0.out.trans (HPL.out.tg.bw.mono HB0.out.size)
  go_wp2
  go_ret
  exact ⟨rfl,HBW.out⟩
 have H6:Hid (cm.op≤6):=by show cm.op≤6;omega
 go_upto_region 7 with fail
 clear h6 c30 hpi
 go_wp2_with fail
 refine HPL.out.tg.st.mono ?_
 rintro r V2 ⟨a1,c1,rfl,r1,_,b2⟩
 obtain ⟨V3,hst,A8,b3'⟩:=newS M.s a1 c1 V2
 have HST:Hid ((Instr.storeAt 36 (.pointer (some ⟨V2.heap.size,0,.none⟩)) (.agg (M.s.vs a1 c1).toArray)).run Tryz.prog (V2.alloc (.cells #[.int .i64 0,.slice .none 0 0,.int .i64 0,.int .i64 0,.bool false] 36))=.ok () V3):=hst
 have h8:¬p.F V2.heap.size:=fun f=>by have:=HPL.out.tg.foot _ f;have:=b2.size;omega
 obtain ⟨b8,hb8⟩:∃ b8,V2.heap.size=b8:=⟨_,rfl⟩
 have H8:Hid (At V3 b8 (M.s.vs a1 c1) 36∧iy V3 p a1 M.s∧¬p.F b8):=⟨by rw [←hb8];exact A8,r1.later b3',by rw [←hb8];exact h8⟩
 have HT3:Hid (aa W0 V3 t M p):=(HPL.out.tg.later b2).later b3'
 have HC3:Hid (At V3 b3 cm.vs 24):=(HC.out.1.later b2 HC.out.1.lt).later b3' (by have:=HC.out.1.lt;have:=b2.size;omega)
 have HB8:Hid (V2.heap.size=b8):=hb8
 clear hst A8 b3' r1 b2 h8 hb8
 go_upto_region 8 with (with_reducible refine cu HST.out rfl rfl ?_)
 clear HST
 rw [HB8.out]
 clear HB8
 go_wp2_with fail
 refine HT3.out.ep.mono ?_
 rintro r V4 ⟨rfl,rfl⟩
 have HLC:Hid ((Instr.loadAt 24 (.pointer (some ⟨b3,0,.none⟩))).run Tryz.prog V4=.ok (.agg cm.vs.toArray) V4):=vv HC3.out
 have HAT:Hid (Calls Tryz.prog 20 #[.pointer (some ⟨t,0,.none⟩),.agg cm.vs.toArray] V4 fun r w'=>r=.returned (.tuple #[.string (au M cm).1.data,.int .i64 (au M cm).1.tag,ai (au M cm).1.f]) ∧
  ∃ p',aa W0 w' t (au M cm).2 p'∧p'.k=p.k∧p'.b=p.b∧ae p.F p'.F V4 w'):=askT_any HT3.out HL0.out HPL.out.ti (by have:=HN.out;omega) HPL.out.al.bi cm HCO.out.1 HCO.out.2.1 HCO.out.2.2
 as_aux_lemma =>
 go_wp2_with (with_reducible refine ak HLC.out rfl rfl ?_)
 refine HAT.out.mono ?_
 rintro r V5 ⟨rfl,p2,hT,_,_,hm⟩
 have hsay:=fun h0=>kept_says HPL.out.al HF.out (by have:=H6.out;omega) h0
 have hall:=(HPL.out.al.au HPL.out.ti cm).1
 have hti:=HPL.out.ti.au (HT3.out.mp.tidy x9) cm
 have HP5:Hid (Plain W0 V5 t (au M cm).2 p2 (l.length+1)):=⟨hT,hti,hall⟩
 have H85:Hid (At V5 b8 (M.s.vs a1 c1) 36∧Go.Proofs.YtpkhdihoijkamaaGreatDoor.Row V5 a1 M.s.l.length M.s.l):=⟨hm.at H8.out.1 H8.out.2.2,(H8.out.2.1.moved hm).row⟩
 generalize au M cm=R at *
 obtain ⟨A2,M'⟩:=R
 have HSY:Hid (A2.f=0→(¬LessS M.s M'.s→M'.e=M.e)∧(LessS M.s M'.s→M.e<M'.e∧M'.W=.map []∧∀ m ∈ M'.fly,m.c.e<M'.e)):=hsay
 replace HP5:Hid (Plain W0 V5 t M' p2 (l.length+1)):=HP5.out
 clear hsay hall hti hT hm HAT HLC H8 HT3 HC3 HC HPL H6
 go_wp2_with fail
 refine HP5.out.tg.st.mono ?_
 rintro r V6 ⟨a2,c2,rfl,r2,_,b6⟩
 obtain ⟨V7,hst,A9,b7⟩:=newS M'.s a2 c2 V6
 have HST:Hid ((Instr.storeAt 36 (.pointer (some ⟨V6.heap.size,0,.none⟩)) (.agg (M'.s.vs a2 c2).toArray)).run Tryz.prog (V6.alloc (.cells #[.int .i64 0,.slice .none 0 0,.int .i64 0,.int .i64 0,.bool false] 36))=.ok () V7):=hst
 obtain ⟨b15,hb15⟩:∃ b15,V6.heap.size=b15:=⟨_,rfl⟩
 have HB15:Hid (V6.heap.size=b15):=hb15
 have HQ0:Hid (InE W0 V7 t p2.b b8 b15 M' p2 M.s a1 c1 a2 c2):=⟨(HP5.out.tg.later b6).later b7,rfl,(H85.out.1.later b6 H85.out.1.lt).later b7 (by have:=H85.out.1.lt;have:=b6.size;omega),by rw [←hb15];exact A9,(H85.out.2.later b6).later b7,r2.row.later b7⟩
 have HTA:Hid (TI M' (l.length+1)∧All M'):=⟨HP5.out.ti,HP5.out.al⟩
 clear hst A9 b6 b7 r2 hb15 H85 HP5
 go_upto_region 11 with (with_reducible refine cu HST.out rfl rfl ?_)
 clear HST
 rw [HB15.out]
 clear HB15
 go_wp2
 go_loopw [16,17] (fun lv iv wx=>∃ j:Nat,j≤4∧lv=.bool (uz M.s M'.s j)∧iv=.int .i64 ((j:Int)+1)∧InE W0 wx t p2.b b8 b15 M' p2 M.s a1 c1 a2 c2) (fun _ iv _=>5 - (intOf iv).toNat)
 case atStart=>exact ⟨0,by omega,rfl,rfl,HQ0.out⟩
 case round =>
  clear HQ0
  obtain ⟨j,hj4,rfl,rfl,hq0⟩:=hrel
  have HQ:Hid (InE W0 wr t p2.b b8 b15 M' p2 M.s a1 c1 a2 c2):=hq0
  clear hq0
  by_cases hj:j<4
  ·have hle:((j:Int)+1)≤4:=by omega
   have HLN:Hid (uz M.s M'.s (j+1)=(uz M.s M'.s j || lessO M.s M'.s ((j:Int)+1))):=lessN_succ _ _ _
   cases hls:uz M.s M'.s j with
   | true =>
     have HV:Hid (uz M.s M'.s (j+1)=true):=by show _=_;rw [HLN.out,hls];rfl
     go_wp2_with fail
     exact ⟨⟨j+1,by omega,by rw [HV.out],by go_num,HQ.out⟩,by simp [intOf];omega⟩
   | false =>
     have HLD:Hid ((Instr.loadAt 36 (.pointer (some ⟨b8,0,.none⟩))).run Tryz.prog wr=.ok (.agg (M.s.vs a1 c1).toArray) wr):=jk HQ.out.A8
     go_wp2_with (with_reducible refine ak HLD.out rfl rfl ?_)
     refine (mayK M.s a1 c1 ((j:Int)+1) true wr HQ.out.r8).mono ?_
     rintro r X1 ⟨rfl,bb⟩
     replace HQ:Hid (InE W0 X1 t p2.b b8 b15 M' p2 M.s a1 c1 a2 c2):=HQ.out.later bb
     clear bb HLD
     cases b1:jy M.s.t M.s.hd M.s.l ((j:Int)+1) true with
     | false =>
       have HLD:Hid ((Instr.loadAt 36 (.pointer (some ⟨b8,0,.none⟩))).run Tryz.prog X1=.ok (.agg (M.s.vs a1 c1).toArray) X1):=jk HQ.out.A8
       go_wp2_with (with_reducible refine ak HLD.out rfl rfl ?_)
       refine (mayK M.s a1 c1 ((j:Int)+1) false X1 HQ.out.r8).mono ?_
       rintro r X2 ⟨rfl,bb⟩
       replace HQ:Hid (InE W0 X2 t p2.b b8 b15 M' p2 M.s a1 c1 a2 c2):=HQ.out.later bb
       clear bb HLD
       cases b3:jy M.s.t M.s.hd M.s.l ((j:Int)+1) false with
       | false =>
         have HV:Hid (uz M.s M'.s (j+1)=false):=by show _=_;rw [HLN.out,hls];simp [lessO,b1,b3]
         go_wp2_with fail
         exact ⟨⟨j+1,by omega,by rw [HV.out],by go_num,HQ.out⟩,by simp [intOf];omega⟩
       | true =>
         have HLD:Hid ((Instr.loadAt 36 (.pointer (some ⟨b15,0,.none⟩))).run Tryz.prog X2=.ok (.agg (M'.s.vs a2 c2).toArray) X2):=jk HQ.out.A10
         go_wp2_with (with_reducible refine ak HLD.out rfl rfl ?_)
         refine (mayK M'.s a2 c2 ((j:Int)+1) false X2 HQ.out.r10).mono ?_
         rintro r X3 ⟨rfl,bb⟩
         replace HQ:Hid (InE W0 X3 t p2.b b8 b15 M' p2 M.s a1 c1 a2 c2):=HQ.out.later bb
         clear bb HLD
         cases b4:jy M'.s.t M'.s.hd M'.s.l ((j:Int)+1) false with
         | true =>
           have HV:Hid (uz M.s M'.s (j+1)=false):=by show _=_;rw [HLN.out,hls];simp [lessO,b1,b3,b4]
           go_wp2_with fail
           exact ⟨⟨j+1,by omega,by rw [HV.out],by go_num,HQ.out⟩,by simp [intOf];omega⟩
         | false =>
           have HV:Hid (uz M.s M'.s (j+1)=true):=by show _=_;rw [HLN.out,hls];simp [lessO,b1,b3,b4]
           go_wp2_with fail
           exact ⟨⟨j+1,by omega,by rw [HV.out],by go_num,HQ.out⟩,by simp [intOf];omega⟩
     | true =>
       have HLD:Hid ((Instr.loadAt 36 (.pointer (some ⟨b15,0,.none⟩))).run Tryz.prog X1=.ok (.agg (M'.s.vs a2 c2).toArray) X1):=jk HQ.out.A10
       go_wp2_with (with_reducible refine ak HLD.out rfl rfl ?_)
       refine (mayK M'.s a2 c2 ((j:Int)+1) true X1 HQ.out.r10).mono ?_
       rintro r X4 ⟨rfl,bb⟩
       replace HQ:Hid (InE W0 X4 t p2.b b8 b15 M' p2 M.s a1 c1 a2 c2):=HQ.out.later bb
       clear bb HLD
       cases b2:jy M'.s.t M'.s.hd M'.s.l ((j:Int)+1) true with
       | false =>
         have HV:Hid (uz M.s M'.s (j+1)=true):=by show _=_;rw [HLN.out,hls];simp [lessO,b1,b2]
         go_wp2_with fail
         exact ⟨⟨j+1,by omega,by rw [HV.out],by go_num,HQ.out⟩,by simp [intOf];omega⟩
       | true =>
         have HLD:Hid ((Instr.loadAt 36 (.pointer (some ⟨b8,0,.none⟩))).run Tryz.prog X4=.ok (.agg (M.s.vs a1 c1).toArray) X4):=jk HQ.out.A8
         go_wp2_with (with_reducible refine ak HLD.out rfl rfl ?_)
         refine (mayK M.s a1 c1 ((j:Int)+1) false X4 HQ.out.r8).mono ?_
         rintro r X5 ⟨rfl,bb⟩
         replace HQ:Hid (InE W0 X5 t p2.b b8 b15 M' p2 M.s a1 c1 a2 c2):=HQ.out.later bb
         clear bb HLD
         cases b3:jy M.s.t M.s.hd M.s.l ((j:Int)+1) false with
         | false =>
           have HV:Hid (uz M.s M'.s (j+1)=false):=by show _=_;rw [HLN.out,hls];simp [lessO,b1,b2,b3]
           go_wp2_with fail
           exact ⟨⟨j+1,by omega,by rw [HV.out],by go_num,HQ.out⟩,by simp [intOf];omega⟩
         | true =>
           have HLD:Hid ((Instr.loadAt 36 (.pointer (some ⟨b15,0,.none⟩))).run Tryz.prog X5=.ok (.agg (M'.s.vs a2 c2).toArray) X5):=jk HQ.out.A10
           go_wp2_with (with_reducible refine ak HLD.out rfl rfl ?_)
           refine (mayK M'.s a2 c2 ((j:Int)+1) false X5 HQ.out.r10).mono ?_
           rintro r X6 ⟨rfl,bb⟩
           replace HQ:Hid (InE W0 X6 t p2.b b8 b15 M' p2 M.s a1 c1 a2 c2):=HQ.out.later bb
           clear bb HLD
           cases b4:jy M'.s.t M'.s.hd M'.s.l ((j:Int)+1) false with
           | true =>
             have HV:Hid (uz M.s M'.s (j+1)=false):=by show _=_;rw [HLN.out,hls];simp [lessO,b1,b2,b3,b4]
             go_wp2_with fail
             exact ⟨⟨j+1,by omega,by rw [HV.out],by go_num,HQ.out⟩,by simp [intOf];omega⟩
           | false =>
             have HV:Hid (uz M.s M'.s (j+1)=true):=by show _=_;rw [HLN.out,hls];simp [lessO,b1,b2,b3,b4]
             go_wp2_with fail
             exact ⟨⟨j+1,by omega,by rw [HV.out],by go_num,HQ.out⟩,by simp [intOf];omega⟩
  ·as_aux_lemma =>
   have hj5:j=4:=by omega
   subst hj5
   have hkx:¬((4:Nat):Int)+1≤4:=by omega
   rw [lessN_4]
   have HE5:Hid (Below w.heap.size w wr):=HB0.out.trans (HQ.out.tg.bw.mono HB0.out.size)
   by_cases hf:A2.f=0
   case neg =>
    rw [ut hf]
    clear hf HSY
    generalize decide (LessS M.s M'.s)=bl at *
    go_wp2
    go_ret
    exact ⟨rfl,HE5.out⟩
   have HSY2:=HSY.out hf
   rw [hf,show ai 0=.nilIface from rfl]
   clear hf HSY
   by_cases hls:LessS M.s M'.s
   case neg =>
    have he:=HSY2.1 hls
    rw [show decide (LessS M.s M'.s)=false from decide_eq_false hls]
    clear HSY2 hls
    go_wp2_with fail
    refine HQ.out.tg.ep.mono ?_
    rintro r Y1 ⟨rfl,rfl⟩
    rw [he]
    go_wp2
    go_ret
    exact ⟨rfl,HE5.out⟩
   rw [show decide (LessS M.s M'.s)=true from decide_eq_true hls]
   obtain ⟨h1,h2,h3⟩:=HSY2.2 hls
   have hle:¬M'.e≤M.e:=by omega
   have HW:Hid (M'.W=.map []∧∀ m ∈ M'.fly,m.c.e<M'.e):=⟨h2,h3⟩
   clear HSY2 hls h1 h2 h3
   go_wp2_with fail
   refine HQ.out.tg.ep.mono ?_
   rintro r Y1 ⟨rfl,rfl⟩
   go_wp2_with fail
   refine (adm HQ.out.tg HW.out.1).mono ?_
   rintro r Y2 ⟨rfl,bY⟩
   have HT2:Hid (aa W0 Y2 t M' p2):=HQ.out.tg.later bY
   clear bY HQ HE5
   go_wp2_with fail
   refine (aal HT2.out.hd HT2.out.len).mono ?_
   clear hle
   rintro r Y3 ⟨rfl,b3'⟩
   obtain ⟨Y4,hst,A18,b4⟩:=G.newG HT2.out.ok Y3
   have HST:Hid ((Instr.storeAt 51 (.pointer (some ⟨Y3.heap.size,0,.none⟩)) (.agg (G.grV M'.rs M'.up).toArray)).run Tryz.prog (Y3.alloc (.cells G.z78.toArray 51))=.ok () Y4):=hst
   obtain ⟨b18,hb18⟩:∃ b18,Y3.heap.size=b18:=⟨_,rfl⟩
   have HB18:Hid (Y3.heap.size=b18):=hb18
   have HQK:Hid (InK W0 Y4 t M' p2 (l.length+1) b18 M'.rs M'.up M'.e):=⟨⟨(HT2.out.later b3').later b4,HTA.out.1,HTA.out.2⟩,by rw [←hb18];exact A18,fun f=>by have:=HT2.out.foot _ f;have:=b3'.size;omega,HT2.out.ok,⟨rfl,HW.out.1,HW.out.2,fun _ _ _=>rfl⟩⟩
   generalize M'.rs=g at *
   generalize M'.up=up at *
   generalize M'.e=ee at *
   clear hst A18 b3' b4 hb18 HT2 HTA HW
   go_upto_region 21 with (with_reducible refine cu HST.out rfl rfl ?_)
   clear HST
   rw [HB18.out]
   clear HB18
   go_wp2
   go_loopw [19] (fun v wr=>∃ (k:Nat) (Mk:TM) (pk:TP),v=.int .i64 (k:Int)∧k≤P.length∧InK W0 wr t Mk pk (l.length+1) b18 g up ee) (fun v _=>P.length - (intOf v).toNat)
   case atStart=>exact ⟨0,M',p2,rfl,Nat.zero_le _,HQK.out⟩
   case round =>
    as_aux_lemma =>
    clear HQK
    obtain ⟨k,Mk,pk,rfl,hk,hq⟩:=hrel
    have HQ:Hid (InK W0 wr t Mk pk (l.length+1) b18 g up ee):=hq
    clear hq
    have HE5:Hid (Below w.heap.size w wr):=HB0.out.trans (HQ.out.pl.tg.bw.mono HB0.out.size)
    by_cases hlt:k<P.length
    case neg =>
     have hki:¬((k:Int)<(P.length:Int)):=by omega
     go_wp2
     go_ret
     exact ⟨rfl,HE5.out⟩
    have hki:(k:Int)<(P.length:Int):=by omega
    have HK:Hid (k<P.length):=hlt
    have hk40:(k:Int)<40:=by have:=HP40.out;omega
    obtain ⟨bp,off,hpa,hcs⟩:=(HPW.out.later HQ.out.pl.tg.bw).2.2 (by omega)
    have HCP:Hid (∀ V,Below wr.heap.size wr V→V.cell? ⟨bp,off+k,.none⟩=some (.int .i64 P[k])):=fun V hV=>cell_later hV (hcs k hlt)
    obtain ⟨x,hx⟩:∃ x,P[k]=x:=⟨_,rfl⟩
    rw [hx] at HCP
    subst hpa
    clear hcs hx hlt hk
    go_wp2_with fail
    refine (aaj HQ.out.pl.tg (by have:=HQ.out.pl.ti.fn;omega)).mono ?_
    rintro r X1 ⟨fv,rfl,ho,_,bX⟩
    obtain ⟨fa,fc,hfv⟩:=ho.form
    subst hfv
    have HE6:Hid (Below w.heap.size w X1):=HE5.out.trans (bX.mono HE5.out.size)
    have cP:X1.cell? ⟨bp,off+k,.none⟩=some (.int .i64 x):=HCP.out X1 bX
    replace HQ:Hid (InK W0 X1 t Mk pk (l.length+1) b18 g up ee):=HQ.out.later bX
    clear ho bX HCP HE5
    by_cases hn:Mk.fly.length=0
    case pos =>
     rw [hn]
     clear cP
     go_wp2
     go_ret
     exact ⟨rfl,HE6.out⟩
    have hnz:(Mk.fly.length:Int)≠0:=by omega
    have hni:((Mk.fly.length:Int) == 0)=false:=beq_eq_false_iff_ne.2 hnz
    clear hn HE6
    go_wp2_with fail
    have HDL:Hid (∀ (i:Int) (st:Bool),Calls Tryz.prog 25 #[.pointer (some ⟨t,0,.none⟩),.int .i64 i,.bool st] X1 fun r w'=>∃ (bb:Bool) (ff:Int) (M2:TM) (p3:TP),r=.returned (.tuple #[.bool bb,ai ff])∧InK W0 w' t M2 p3 (l.length+1) b18 g up ee):=fun i st=>by
     refine (adv HQ.out.pl.tg HQ.out.pl.ti (by have:=HN.out;omega) i st).mono ?_
     rintro r w' ⟨rfl,p3,hT,_,_,hm⟩
     exact ⟨_,_,_,p3,rfl,⟨⟨hT,HQ.out.pl.ti.deliver (HQ.out.pl.tg.mp.tidy x9) i st,HQ.out.pl.al.deliver i st⟩,hm.at HQ.out.AG HQ.out.oG,hm.not HQ.out.AG.lt HQ.out.oG,HQ.out.ok,HQ.out.ko.deliver HQ.out.pl.al.gi i st⟩⟩
    refine (HDL.out _ _).mono ?_
    rintro r X2 ⟨bb,ff,M2,p3,rfl,hq2⟩
    as_aux_lemma =>
    have HQ2:Hid (InK W0 X2 t M2 p3 (l.length+1) b18 g up ee):=hq2
    generalize ai ff=er at *
    clear hq2 HDL HQ cP hni hnz hki
    go_wp2_with fail
    refine (aal HQ2.out.pl.tg.hd HQ2.out.pl.tg.len).mono ?_
    rintro r X3 ⟨rfl,b3'⟩
    obtain ⟨X4,hst,A21,b4⟩:=G.newG HQ2.out.pl.tg.ok X3
    have HST:Hid ((Instr.storeAt 51 (.pointer (some ⟨X3.heap.size,0,.none⟩)) (.agg (G.grV M2.rs M2.up).toArray)).run Tryz.prog (X3.alloc (.cells G.z78.toArray 51))=.ok () X4):=hst
    obtain ⟨b21,hb21⟩:∃ b21,X3.heap.size=b21:=⟨_,rfl⟩
    have HB21:Hid (X3.heap.size=b21):=hb21
    have HI0:Hid (InK W0 X4 t M2 p3 (l.length+1) b18 g up ee∧G.At X4 b21 (G.grV M2.rs M2.up) 51):=⟨(HQ2.out.later b3').later b4,by rw [←hb21];exact A21⟩
    clear hst A21 b3' b4 hb21 HQ2
    go_upto_region 28 with (with_reducible refine cu HST.out rfl rfl ?_)
    clear HST
    rw [HB21.out]
    clear HB21
    go_wp2
    go_loopw [22] (fun v wx=>∃ q:Nat,v=.int .i64 (q:Int)∧q≤3∧InK W0 wx t M2 p3 (l.length+1) b18 g up ee∧G.At wx b21 (G.grV M2.rs M2.up) 51) (fun v _=>3 - (intOf v).toNat)
    case atStart=>exact ⟨0,rfl,by decide,HI0.out⟩
    case round =>
     as_aux_lemma =>
     clear HI0
     obtain ⟨q,rfl,hq3,hq⟩:=hrel
     have HI:Hid (InK W0 wr t M2 p3 (l.length+1) b18 g up ee∧G.At wr b21 (G.grV M2.rs M2.up) 51):=hq
     clear hq
     by_cases hq4:q<3
     case neg =>
      have hqi:¬((q:Int)<3):=by omega
      have HFI:Hid (InK W0 wr t M2 p3 (l.length+1) b18 g up ee):=HI.out.1
      clear HI hq3 hq4
      go_wp2
      exact ⟨⟨k+1,M2,p3,by go_num,HK.out,HFI.out⟩,by simp [intOf];have:=HK.out;omega⟩
     have hqi:(q:Int)<3:=by omega
     have HQ3:Hid (q<3):=hq4
     clear hq3 hq4
     go_upto_region 31 with fail
     refine ql (S:=fun w'=>InK W0 w' t M2 p3 (l.length+1) b18 g up ee∧G.At w' b21 (G.grV M2.rs M2.up) 51) (by kernel_rfl) ?_
     intro V hV bV sV
     have HS:Hid (InK W0 V t M2 p3 (l.length+1) b18 g up ee∧G.At V b21 (G.grV M2.rs M2.up) 51):=⟨HI.out.1.later bV,HI.out.2.later bV HI.out.2.lt⟩
     clear hV bV sV HI
     refine wpG 0 (.int .i64 (q:Int)) HS.out ?_
     refine wpG 1 (.pointer (some ⟨b18,0,.none⟩)) HS.out ?_
     refine wpG 2 (.pointer (some ⟨b18,q*25,.none⟩)) HS.out ?_
     (try simp [Act.put])
     refine wpG 3 (.pointer (some ⟨b18,q*25,.none⟩)) HS.out ?_
     refine wpT 4 (.int .i64 (G.ah g q).f) (.inl ⟨rfl,fun w' hw'=>?_⟩) HS.out ?_
     ·have hc:=floorK_cell hw'.1.AG hw'.1.ok q HQ3.out;go_simp
     refine wpG 5 (.pointer (some ⟨t,0,.none⟩)) HS.out ?_
     (try simp [Act.put])
     refine wpA 6 ?_
     refine Go.Proofs.YtpkhdihoijkamaaGreatDoor.D.aa3 rfl rfl ?_
     go_wp2_with fail
     refine HS.out.1.pl.tg.ep.mono ?_
     rintro r Y1 ⟨rfl,rfl⟩
     rw [HS.out.1.ko.ep]
     refine ⟨HS.out,?_⟩
     (try simp [Act.put])
     as_aux_lemma =>
     by_cases he:(G.ah g q).f=ee
     case pos =>
      as_aux_lemma =>
      have heb:((G.ah g q).f == ee)=true:=by simpa using he
      have hnr:∀ W,(binOp .neq 47 (.agg (G.ah M2.rs q).vs.toArray) (.agg (G.ah g q).vs.toArray)).run Tryz.prog W=.ok (.bool false) W:=fun W=>by
       rw [HS.out.1.ko.sm q HQ3.out he];exact neqK_rep (G.aaa HS.out.1.ok q HQ3.out) W
      refine wpG 7 (.bool true) HS.out ?_
      refine wpG 8 (.bool true) HS.out ?_
      refine wpG 9 (.int .i64 (q:Int)) HS.out ?_
      (try simp [Act.put])
      refine wpG 10 (.pointer (some ⟨b21,0,.none⟩)) HS.out ?_
      refine wpG 11 (.pointer (some ⟨b21,q*25,.none⟩)) HS.out ?_
      refine wpT 12 (.agg (G.ah M2.rs q).vs.toArray) (.inl ⟨rfl,fun w' hw'=>?_⟩) HS.out ?_
      ·exact jc (loadK_rep hw'.2 hw'.1.pl.tg.ok q HQ3.out) rfl
      (try simp [Act.put])
      refine wpG 13 (.int .i64 (q:Int)) HS.out ?_
      refine wpG 14 (.pointer (some ⟨b18,0,.none⟩)) HS.out ?_
      refine wpG 15 (.pointer (some ⟨b18,q*25,.none⟩)) HS.out ?_
      (try simp [Act.put])
      refine wpT 16 (.agg (G.ah g q).vs.toArray) (.inl ⟨rfl,fun w' hw'=>?_⟩) HS.out ?_
      ·exact jc (loadK_rep hw'.1.AG hw'.1.ok q HQ3.out) rfl
      refine wpG 17 (.bool false) HS.out ?_
      refine wpG 18 (.bool false) HS.out ?_
      (try simp [Act.put])
      refine wpZ ?_
      (try simp [Act.put])
      clear hnr
      go_wp2
      exact ⟨⟨q+1,by go_num,HQ3.out,HS.out⟩,by simp [intOf];have:=HQ3.out;omega⟩
     case neg =>
      as_aux_lemma =>
      have heb:((G.ah g q).f == ee)=false:=by simpa using he
      refine wpG 7 (.bool false) HS.out ?_
      refine wpG 8 (.bool false) HS.out ?_
      (try simp [Act.put])
      refine wpT 9 (undef) (.inr ⟨rfl,rfl⟩) HS.out ?_
      (try simp [Act.put])
      refine wpT 10 (undef) (.inr ⟨rfl,rfl⟩) HS.out ?_
      refine wpT 11 (undef) (.inr ⟨rfl,rfl⟩) HS.out ?_
      refine wpT 12 (undef) (.inr ⟨rfl,rfl⟩) HS.out ?_
      (try simp [Act.put])
      refine wpT 13 (undef) (.inr ⟨rfl,rfl⟩) HS.out ?_
      refine wpT 14 (undef) (.inr ⟨rfl,rfl⟩) HS.out ?_
      refine wpT 15 (undef) (.inr ⟨rfl,rfl⟩) HS.out ?_
      (try simp [Act.put])
      refine wpT 16 (undef) (.inr ⟨rfl,rfl⟩) HS.out ?_
      refine wpT 17 (undef) (.inr ⟨rfl,rfl⟩) HS.out ?_
      refine wpG 18 (.bool false) HS.out ?_
      (try simp [Act.put])
      refine wpZ ?_
      (try simp [Act.put])
      go_wp2
      exact ⟨⟨q+1,by go_num,HQ3.out,HS.out⟩,by simp [intOf];have:=HQ3.out;omega⟩
end Go.Proofs.YtpkhdihoijkamaaGreatDoor.U
