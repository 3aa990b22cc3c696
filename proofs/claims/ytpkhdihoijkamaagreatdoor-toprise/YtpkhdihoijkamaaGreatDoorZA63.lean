/- Several texts of this seat in one: URise. No statement of the seat is proved here. -/
import Derived.Test.YtpkhdihoijkamaaGreatDoorZA43
import Derived.Test.YtpkhdihoijkamaaGreatDoorZA12
import Derived.Lib.SlicesS
namespace Go.Proofs.YtpkhdihoijkamaaGreatDoor.U
open Go.ChangeShapes Go.WideShapes Go.ChangeAt Go.RowKit Go.Deep Go.Maps
open Go.Proofs.YtpkhdihoijkamaaGreatDoor.D
structure InR (w wr:World) (t:Nat) (M:TM) (p:TP) (b b8:Nat) (sc:G.Cel) (k j:Nat):Prop where
 tg:aa w wr t M p
 al:All M
 ti:TI M j
 pb:p.b=b
 A8:G.At wr b8 sc.vs 44
 o8:¬p.F b8
 l8:w.heap.size≤b8
 rj:RJ2 M.gs k sc
theorem InR.later {w wr wx:World} {t:Nat} {M:TM} {p:TP} {b b8:Nat} {sc:G.Cel} {k j:Nat} (h:InR w wr t M p b b8 sc k j) (hb:Below wr.heap.size wr wx):InR w wx t M p b b8 sc k j :=
 ⟨h.tg.later hb,h.al,h.ti,h.pb,h.A8.later hb h.A8.lt,h.o8,h.l8,h.rj⟩
def rdC (k:Nat):CmD:=⟨7,1,0,0,0,(k:Int),false,⟨#[]⟩,⟨#[]⟩⟩
set_option maxRecDepth 100000 in
set_option maxHeartbeats 16000000 in
theorem topRise_walk (w:World) (hL:K.Laid w) (a:Option Addr) (n c:Nat) (l:List ig) (h:jh w a n l) (hop:jq l) (i:Int) (_:(Lit.int .i64 i).wf=true) :
 Calls Tryz.prog 5 #[.slice a n c,.int .i64 i] w fun r w'=>r=.returned (.bool true)∧Below w.heap.size w w':=by
 obtain rfl:=h.len
 have HL:Hid (K.Laid w):=hL
 have HA:Hid (jh w a l.length l∧jq l):=⟨h,hop⟩
 clear h hop hL
 go_enter Tryz.func5,Tryz.ntmps5
 go_wp2_with fail
 refine (zy w HL.out).mono ?_
 rintro r W0 ⟨rfl,bw0⟩
 have HA0:Hid (jh W0 a l.length l):=HA.out.1.later bw0
 have HB0:Hid (Below w.heap.size w W0):=bw0
 clear bw0
 go_wp2_with fail
 refine (ads a l.length c l 80 W0 HA0.out).mono ?_
 rintro r W1 ⟨rfl,b1⟩
 have HB1:Hid (Below w.heap.size w W1):=HB0.out.trans (b1.mono HB0.out.size)
 clear b1 HA0 HB0
 cases hl:om l 80 with
 | false =>
   clear hl
   go_wp2
   go_ret
   exact ⟨rfl,HB1.out⟩
 | true =>
   have hn:l.length≤80:=by simp [om] at hl;omega
   clear hl
   by_cases h0:i<0
   ·go_wp2
    go_ret
    exact ⟨rfl,HB1.out⟩
   by_cases h7:7<i
   ·go_wp2
    go_ret
    exact ⟨rfl,HB1.out⟩
   obtain ⟨k,rfl⟩:∃ k:Nat,i=k:=⟨i.toNat,by omega⟩
   have HK8:Hid (k<8):=by show k<8;omega
   have HL1:Hid (K.Laid W1):=HL.out.later HB1.out
   go_wp2_with fail
   clear h0 h7
   refine (ada W1 HL1.out).mono ?_
   rintro r W2 ⟨t,p,D,rfl,hT,hS⟩
   have hT0:aa w W2 t (dh D) p:=⟨hT.hd,hT.ok,hT.kk,hT.fl,hT.dl,hT.mp,hT.bx,hT.cK,hT.cT,hT.cF,hT.cD,hT.cM,hT.cB,fun q hq=>⟨Nat.le_trans HB1.out.size (hT.cN q hq).1,(hT.cN q hq).2⟩,HB1.out.trans (hT.bw.mono HB1.out.size)⟩
   obtain ⟨Z,hZ,z0,bZ,sZ⟩:=Go.Proofs.YtpkhdihoijkamaaGreatDoor.D.one W2 (.cells #[.int .i64 0,.int .i64 0,.string ⟨#[]⟩] 44)
   obtain ⟨b8,hb8⟩:∃ b8,W2.heap.size=b8:=⟨_,rfl⟩
   obtain ⟨b,hb⟩:∃ b,p.b=b:=⟨_,rfl⟩
   have hal:All (dh D):=openAll hS
   have HQ0:Hid (InR w Z t (dh D) p b b8 G.zc k 0):=⟨hT0.later bZ,hal,openTI D,hb,by rw [←hb8];exact z0,fun f=>by have:=hT0.foot _ f;omega,by have:=hT0.bw.size;omega,RJ2.zc hal.ci HK8.out⟩
   have HB8:Hid (W2.heap.size=b8):=hb8
   rw [hb]
   clear hT hT0 hS z0 bZ sZ hb8 hb HL1 HB1 hal
   go_wp2
   rw [←hZ,HB8.out]
   clear hZ HB8
   go_loopw [7,9] (fun tv v wr=>∃ (j t:Nat) (M:TM) (p:TP) (sc:G.Cel),j≤l.length∧tv=.pointer (some ⟨t,0,.none⟩)∧v=.int .i64 j∧InR w wr t M p b b8 sc k j) (fun _ v _=>l.length - (intOf v).toNat)
   case atStart=>exact ⟨0,t,dh D,p,G.zc,Nat.zero_le _,rfl,rfl,HQ0.out⟩
   case round =>
    clear HQ0 p
    obtain ⟨j,t,M,p,sc,hj,rfl,rfl,hq⟩:=hrel
    have HQ:Hid (InR w wr t M p b b8 sc k j):=hq
    clear hq
    by_cases hlt:j<l.length
    ·have hji:(j:Int)<(l.length:Int):=by omega
     obtain ⟨b0,off,rfl,hrow0⟩:=HA.out.1.row (by omega)
     have hmem:=List.getElem_mem hlt
     have HX:Hid (l[j].OK w∧(Lit.int .i64 l[j].op).wf=true):=⟨HA.out.1.ok l[j] hmem,HA.out.2 l[j] hmem⟩
     have hrk:=zq (hrow0 j hlt) HQ.out.tg.bw
     have HJ:Hid (j<l.length∧j<81):=⟨hlt,by omega⟩
     generalize l[j]=x at *
     have HLa:Hid ((Instr.loadAt 62 (.pointer (some ⟨b0,off+j*19,.none⟩))).run Tryz.prog wr=.ok (.agg x.vs.toArray) wr):=G.load_act hrk
     have HP:Hid (Calls Tryz.prog 28 #[.pointer (some ⟨b,0,.none⟩),.pointer (some ⟨t,0,.none⟩),.agg x.vs.toArray] wr fun r w'=>Played w wr w' t p (gy M x) r):=by
      have:=play_any HQ.out.tg HL.out HQ.out.ti (by have:=HJ.out.2;omega) HQ.out.al.si x HX.out.2 HX.out.1.daz HX.out.1.waz
      rw [HQ.out.pb] at this
      exact this
     clear hrow0 hmem hrk hj hlt
     go_wp2_with (with_reducible refine ak HLa.out rfl rfl ?_)
     refine HP.out.mono ?_
     rintro r V ⟨t',p',rfl,hT',hb',hm,_⟩
     have HQ1:Hid (InR w V t' (gy M x).2 p' b b8 sc k (j+1)):=⟨hT',HQ.out.al.play x,HQ.out.ti.play (HQ.out.tg.mp.tidy x9) x,hb'.trans HQ.out.pb,hm.at HQ.out.A8 HQ.out.o8,hm.not HQ.out.A8.lt HQ.out.o8,HQ.out.l8,RJ2.steps (gs_play HQ.out.al.si HQ.out.al.gi.ok x) HQ.out.rj HK8.out HQ.out.al.gi⟩
     generalize (gy M x).2=M1 at *
     clear hT' hb' hm HP HLa HQ HX
     have HAS:Hid (Calls Tryz.prog 20 #[.pointer (some ⟨t',0,.none⟩),.agg #[.int .i64 7,.int .i64 1,.int .i64 0,.int .i64 0,.int .i64 0,.int .i64 (k:Int),.bool false,.string ⟨#[]⟩,.string ⟨#[]⟩]] V fun r w'=>r=.returned (.tuple #[.string (au M1 (rdC k)).1.data,.int .i64 (au M1 (rdC k)).1.tag,ai (au M1 (rdC k)).1.f]) ∧
      ∃ p2,aa w w' t' (au M1 (rdC k)).2 p2∧p2.k=p'.k∧p2.b=p'.b∧ae p'.F p2.F V w'):=askT_any HQ1.out.tg HL.out HQ1.out.ti (by have:=HJ.out.2;omega) HQ1.out.al.bi (rdC k) (by show (Lit.int .i64 7).wf=true;decide) (by show (⟨#[]⟩:ByteArray).size≤9223372036854775807;decide) (by show (⟨#[]⟩:ByteArray).size≤9223372036854775807;decide)
     go_wp2_with fail
     refine HAS.out.mono ?_
     rintro r V2 ⟨rfl,p2,hT2,_,hb2,hm2⟩
     have hall:=HQ1.out.al.au HQ1.out.ti (rdC k)
     have HQ2:Hid (InR w V2 t' (au M1 (rdC k)).2 p2 b b8 sc k (j+1)):=⟨hT2,hall.1,HQ1.out.ti.askR7 rfl,hb2.trans HQ1.out.pb,hm2.at HQ1.out.A8 HQ1.out.o8,hm2.not HQ1.out.A8.lt HQ1.out.o8,HQ1.out.l8,RJ2.steps hall.2 HQ1.out.rj HK8.out HQ1.out.al.gi⟩
     have HSY:Hid ((au M1 (rdC k)).1.f=0→(au M1 (rdC k)).1.data=(fu (au M1 (rdC k)).2 k).d∧jr (au M1 (rdC k)).2=true∧RJ2 (au M1 (rdC k)).2.gs k (fu (au M1 (rdC k)).2 k)∧G.di sc (fu (au M1 (rdC k)).2 k)=false):=fun h=>by
      have:=read_says HQ1.out.al (c:=rdC k) rfl h
      have e:(rdC k).at'.toNat=k:=rfl
      rw [e] at this
      exact ⟨this.2.1,this.2.2.1,this.2.2.2.1,this.2.2.2.2 sc HQ1.out.rj⟩
     generalize au M1 (rdC k)=R at *
     obtain ⟨A,M2⟩:=R
     replace HQ2:Hid (InR w V2 t' M2 p2 b b8 sc k (j+1)):=HQ2.out
     replace HSY:Hid (A.f=0→A.data=(fu M2 k).d∧jr M2=true∧RJ2 M2.gs k (fu M2 k)∧G.di sc (fu M2 k)=false):=HSY.out
     clear hT2 hb2 hm2 hall HAS HQ1
     by_cases hf:A.f=0
     case neg =>
      rw [ut hf]
      clear hf HSY
      go_wp2
      exact ⟨⟨j+1,t',M2,p2,sc,HJ.out.1,rfl,by go_num,HQ2.out⟩,by simp [intOf];have:=HJ.out.1;omega⟩
     have hs:=HSY.out hf
     rw [hf,show ai 0=.nilIface from rfl]
     clear hf HSY
     go_wp2_with fail
     refine (aa8 HQ2.out.tg k HK8.out).mono ?_
     rintro r V3 ⟨rfl,b3⟩
     obtain ⟨x,hx⟩:∃ x,fu M2 k=x:=⟨_,rfl⟩
     rw [hx] at hs ⊢
     rw [hs.2.1]
     obtain ⟨V4,hst,A13,b4⟩:=newCel x V3
     have HST:Hid ((Instr.storeAt 44 (.pointer (some ⟨V3.heap.size,0,.none⟩)) (.agg #[.int .i64 x.e,.int .i64 x.n,.string x.d])).run Tryz.prog (V3.alloc (.cells #[.int .i64 0,.int .i64 0,.string ⟨#[]⟩] 44))=.ok () V4):=hst
     obtain ⟨b13,hb13⟩:∃ b13,V3.heap.size=b13:=⟨_,rfl⟩
     have HB13:Hid (V3.heap.size=b13):=hb13
     have HQ4:Hid (InR w V4 t' M2 p2 b b8 sc k (j+1)):=(HQ2.out.later b3).later b4
     have H13:Hid (G.At V4 b13 x.vs 44):=by rw [←hb13];exact A13
     have HS:Hid (A.data=x.d∧RJ2 M2.gs k x∧G.di sc x=false):=⟨hs.1,hs.2.2.1,hs.2.2.2⟩
     have hdat:A.data=x.d:=hs.1
     clear hst A13 b3 b4 hx hb13 hs HQ2
     clear hdat
     go_upto_region 17 with (with_reducible refine cu HST.out rfl rfl ?_)
     clear HST
     rw [HB13.out]
     clear HB13
     have HL8:Hid ((Instr.loadAt 44 (.pointer (some ⟨b8,0,.none⟩))).run Tryz.prog V4=.ok (.agg #[.int .i64 sc.e,.int .i64 sc.n,.string sc.d]) V4):=G.p8 HQ4.out.A8.whole
     have HL13:Hid ((Instr.loadAt 44 (.pointer (some ⟨b13,0,.none⟩))).run Tryz.prog V4=.ok (.agg #[.int .i64 x.e,.int .i64 x.n,.string x.d]) V4):=G.p8 H13.out.whole
     go_wp2_with (first|with_reducible refine ak HL8.out rfl rfl ?_|with_reducible refine ak HL13.out rfl rfl ?_)
     refine (G.abv sc.e sc.n x.e x.n sc.d x.d V4).mono ?_
     rintro r V5 ⟨rfl,b5⟩
     rw [show G.di ⟨sc.e,sc.n,sc.d⟩ ⟨x.e,x.n,x.d⟩=false from HS.out.2.2]
     have HQ5:Hid (InR w V5 t' M2 p2 b b8 sc k (j+1)):=HQ4.out.later b5
     have H135:Hid (G.At V5 b13 x.vs 44):=H13.out.later b5 H13.out.lt
     have HL13:Hid ((Instr.loadAt 44 (.pointer (some ⟨b13,0,.none⟩))).run Tryz.prog V5=.ok (.agg #[.int .i64 x.e,.int .i64 x.n,.string x.d]) V5):=G.p8 H135.out.whole
     have c13:V5.cell? ⟨b13,2,.none⟩=some (.string x.d):=H135.out.cell 2
     obtain ⟨V6,hst,A8,hm6⟩:=putCelM (d:=x) HQ5.out.A8
     have HST:Hid ((Instr.storeAt 44 (.pointer (some ⟨b8,0,.none⟩)) (.agg #[.int .i64 x.e,.int .i64 x.n,.string x.d])).run Tryz.prog V5=.ok () V6):=hst
     have HQ6:Hid (InR w V6 t' M2 p2 b b8 x k (j+1)):=⟨HQ5.out.tg.beside hm6 (fun q e=>by rw [show q=b8 from e];exact HQ5.out.o8) (fun q e=>by rw [show q=b8 from e];exact HQ5.out.l8),HQ5.out.al,HQ5.out.ti,HQ5.out.pb,A8,HQ5.out.o8,HQ5.out.l8,HS.out.2.1⟩
     clear hst A8 hm6 b5 HQ4 H13 HQ5 HL8
     go_wp2_with (first|with_reducible refine ak HL13.out rfl rfl ?_|with_reducible refine cu HST.out rfl rfl ?_)
     exact ⟨⟨j+1,t',M2,p2,x,HJ.out.1,rfl,by go_num,HQ6.out⟩,by simp [intOf];have:=HJ.out.1;omega⟩
    ·have hjl:j=l.length:=by omega
     subst hjl
     have hji:¬((l.length:Int)<(l.length:Int)):=by omega
     have HE:Hid (Below w.heap.size w wr):=HQ.out.tg.bw
     clear HQ hj hlt
     go_wp2
     go_ret
     exact ⟨rfl,HE.out⟩
end Go.Proofs.YtpkhdihoijkamaaGreatDoor.U
