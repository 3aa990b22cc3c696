/- Several texts of this seat in one: UComp. No statement of the seat is proved here. -/
import Derived.Test.YtpkhdihoijkamaaGreatDoorZA40
import Derived.Test.YtpkhdihoijkamaaGreatDoorZA41
import Derived.Test.YtpkhdihoijkamaaGreatDoorZA12
import Derived.Lib.SlicesS
namespace Go.Proofs.YtpkhdihoijkamaaGreatDoor.U
open Go.ChangeShapes Go.WideShapes Go.ChangeAt Go.RowKit Go.Deep Go.Maps
open Go.Proofs.YtpkhdihoijkamaaGreatDoor.D
set_option maxRecDepth 100000 in
set_option maxHeartbeats 16000000 in
theorem topCompare_walk (w:World) (hL:K.Laid w) (a:Option Addr) (n c:Nat) (l:List ig) (h:jh w a n l) (hop:jq l) (cm:CmD) (hcop:(Lit.int .i64 cm.op).wf=true) (hcd:cm.da.size≤9223372036854775807) (hcw:cm.wa.size≤9223372036854775807) :
 Calls Tryz.prog 11 #[.slice a n c,.agg cm.vs.toArray] w fun r w'=>r=.returned (.bool true)∧Below w.heap.size w w':=by
 obtain rfl:=h.len
 obtain ⟨X,hX,a0,bX,sX⟩:=Go.Proofs.YtpkhdihoijkamaaGreatDoor.D.one w (.cells cm.vs.toArray 24)
 have HC0:Hid (At X w.heap.size cm.vs 24):=a0
 have HCO:Hid ((Lit.int .i64 cm.op).wf=true∧cm.da.size≤9223372036854775807∧cm.wa.size≤9223372036854775807):=⟨hcop,hcd,hcw⟩
 have HL:Hid (K.Laid X):=hL.later bX
 have HA:Hid (jh X a l.length l∧jq l):=⟨h.later bX,hop⟩
 have HB0:Hid (Below w.heap.size w X):=bX
 clear h hop hL a0 bX sX hcop hcd hcw
 go_enter Tryz.func11,Tryz.ntmps11
 go_wp2_with fail
 rw [←hX]
 clear hX
 obtain ⟨b3,hb3⟩:∃ b3,w.heap.size=b3:=⟨_,rfl⟩
 have HB3:Hid (w.heap.size=b3):=hb3
 rw [hb3] at HC0 ⊢
 clear hb3
 refine (zy X HL.out).mono ?_
 rintro r W0 ⟨rfl,bw0⟩
 replace HB0:Hid (Below w.heap.size w W0):=HB0.out.trans (bw0.mono HB0.out.size)
 have HL0:Hid (K.Laid W0):=HL.out.later bw0
 have HA0:Hid (jh W0 a l.length l∧jq l):=⟨HA.out.1.later bw0,HA.out.2⟩
 replace HC0:Hid (At W0 b3 cm.vs 24):=HC0.out.later bw0 HC0.out.lt
 clear bw0 HL HA
 go_wp2_with fail
 refine (aa5 W0 HL0.out a l.length c l HA0.out.1 HA0.out.2).mono ?_
 rintro r V ⟨bV,hres⟩
 rcases hres with ⟨hl,rfl⟩|⟨hl,t,p,D,rfl,hA⟩
 ·have HBW:Hid (Below w.heap.size w V):=HB0.out.trans (bV.mono HB0.out.size)
  clear bV hl HL0 HA0 HC0 HCO HB0
  go_wp2
  go_ret
  exact ⟨rfl,HBW.out⟩
 have HN:Hid (l.length≤80):=by show l.length≤80;simp [om] at hl;omega
 have HPL:Hid (Plain W0 V t (gp (dh D) l) p l.length):=hA.plain
 have HC:Hid (At V b3 cm.vs 24∧¬p.F b3):=⟨HC0.out.later bV HC0.out.lt,fun f=>by have:=hA.tg.above b3 f;have:=HC0.out.lt;omega⟩
 generalize gp (dh D) l=M at *
 generalize p.b=b at *
 clear bV hl hA HA0 HC0
 have HLC:Hid ((Instr.loadAt 24 (.pointer (some ⟨b3,0,.none⟩))).run Tryz.prog V=.ok (.agg cm.vs.toArray) V):=vv HC.out.1
 have HCK:Hid (Calls Tryz.prog 17 #[.agg cm.vs.toArray] V fun r w'=>r=.returned (ai cm.f)∧Below V.heap.size V w'):=K.aas cm.op cm.who cm.key cm.new cm.ty cm.at' cm.st cm.da cm.wa HCO.out.1 HCO.out.2.1 HCO.out.2.2 V
 go_wp2_with (with_reducible refine ak HLC.out rfl rfl ?_)
 refine HCK.out.mono ?_
 rintro r V1 ⟨rfl,bV⟩
 replace HPL:Hid (Plain W0 V1 t M p l.length):=⟨HPL.out.tg.later bV,HPL.out.ti,HPL.out.al⟩
 replace HC:Hid (At V1 b3 cm.vs 24∧¬p.F b3):=⟨HC.out.1.later bV HC.out.1.lt,HC.out.2⟩
 clear bV HLC HCK
 by_cases hc:cm.f=0
 case neg =>
  rw [ut hc]
  have HBW:Hid (Below w.heap.size w V1):=HB0.out.trans (HPL.out.tg.bw.mono HB0.out.size)
  clear hc
  go_wp2
  go_ret
  exact ⟨rfl,HBW.out⟩
 rw [hc,show ai 0=.nilIface from rfl]
 have HF:Hid (cm.f=0):=hc
 clear hc
 have c30:V1.cell? ⟨b3,0,.none⟩=some (.int .i64 cm.op):=HC.out.1.cell 0
 by_cases h9:cm.op=9
 case neg =>
  have h9':¬(cm.op=9):=h9
  have HBW:Hid (Below w.heap.size w V1):=HB0.out.trans (HPL.out.tg.bw.mono HB0.out.size)
  go_wp2
  go_ret
  exact ⟨rfl,HBW.out⟩
 have H9:Hid (cm.op=9):=h9
 rw [h9] at c30
 go_wp2_with fail
 clear c30 h9
 refine (aaj HPL.out.tg (by have:=HPL.out.ti.fn;omega)).mono ?_
 rintro r V2 ⟨fv,rfl,ho,hn,b2⟩
 obtain ⟨af,cf,hfv⟩:=ho.form
 have HN0:Hid (M.fly.length≤40):=HPL.out.ti.fn
 have HPL2:Hid (Plain W0 V2 t M p l.length):=⟨HPL.out.tg.later b2,HPL.out.ti,HPL.out.al⟩
 have HC2:Hid (At V2 b3 cm.vs 24∧¬p.F b3):=⟨HC.out.1.later b2 HC.out.1.lt,HC.out.2⟩
 have HLC:Hid ((Instr.loadAt 24 (.pointer (some ⟨b3,0,.none⟩))).run Tryz.prog V2=.ok (.agg cm.vs.toArray) V2):=vv HC2.out.1
 have HAS:Hid (Calls Tryz.prog 20 #[.pointer (some ⟨t,0,.none⟩),.agg cm.vs.toArray] V2 fun r w'=>r=.returned (.tuple #[.string (au M cm).1.data,.int .i64 (au M cm).1.tag,ai (au M cm).1.f]) ∧
  ∃ p',aa W0 w' t (au M cm).2 p'∧p'.k=p.k∧p'.b=p.b∧ae p.F p'.F V2 w'):=askT_any HPL2.out.tg HL0.out HPL2.out.ti (by have:=HN.out;omega) HPL2.out.al.bi cm HCO.out.1 HCO.out.2.1 HCO.out.2.2
 have HSY:Hid (((au M cm).1.f≠0→(au M cm).1.tag=0∧(au M cm).2.fly.length=M.fly.length∧((au M cm).1.f=9→jr (au M cm).2=true∧(fu (au M cm).2 cm.at'.toNat).d≠cm.wa)) ∧
  ((au M cm).1.f=0→0<(au M cm).1.tag∧jr (au M cm).2=true∧(fu (au M cm).2 cm.at'.toNat).d=cm.wa∧(au M cm).2.fly.length=M.fly.length+3)):=compare_says HPL2.out.al H9.out HF.out
 have HAT:Hid (cm.at'=(cm.at'.toNat:Int)∧cm.at'.toNat<8):=by have:=cmd_at HF.out;constructor <;> omega
 obtain ⟨nn,hnn⟩:∃ nn,M.fly.length=nn:=⟨_,rfl⟩
 rw [hnn] at hfv HSY HN0
 rw [hfv]
 clear ho hn b2 hfv hnn HPL HC
 go_wp2_with (with_reducible refine ak HLC.out rfl rfl ?_)
 refine HAS.out.mono ?_
 rintro r V3 ⟨rfl,p',hT,_,_,hm⟩
 have HT:Hid (aa W0 V3 t (au M cm).2 p'∧At V3 b3 cm.vs 24):=⟨hT,hm.at HC2.out.1 HC2.out.2⟩
 generalize au M cm=R at *
 obtain ⟨A,M'⟩:=R
 replace HT:Hid (aa W0 V3 t M' p'∧At V3 b3 cm.vs 24):=HT.out
 replace HSY:Hid ((A.f≠0→A.tag=0∧M'.fly.length=nn∧(A.f=9→jr M'=true∧(fu M' cm.at'.toNat).d≠cm.wa))∧(A.f=0→0<A.tag∧jr M'=true∧(fu M' cm.at'.toNat).d=cm.wa∧M'.fly.length=nn+3)):=HSY.out
 have c35:V3.cell? ⟨b3,5,.none⟩=some (.int .i64 (cm.at'.toNat:Int)):=by rw [←HAT.out.1];exact HT.out.2.cell 5
 generalize cm.at'.toNat=k at *
 clear hT hm HAS HLC HPL2 HC2 HCO HL0 HN H9 HF
 go_wp2_with fail
 refine (aa8 HT.out.1 k HAT.out.2).mono ?_
 rintro r V4 ⟨rfl,b4⟩
 obtain ⟨x,hx⟩:∃ x,fu M' k=x:=⟨_,rfl⟩
 obtain ⟨mo,hmo⟩:∃ mo,jr M'=mo:=⟨_,rfl⟩
 rw [hx,hmo] at HSY ⊢
 obtain ⟨V5,hst,A12,b5⟩:=newCel x V4
 have HST:Hid ((Instr.storeAt 44 (.pointer (some ⟨V4.heap.size,0,.none⟩)) (.agg #[.int .i64 x.e,.int .i64 x.n,.string x.d])).run Tryz.prog (V4.alloc (.cells #[.int .i64 0,.int .i64 0,.string ⟨#[]⟩] 44))=.ok () V5):=hst
 obtain ⟨b12,hb12⟩:∃ b12,V4.heap.size=b12:=⟨_,rfl⟩
 have HB12:Hid (V4.heap.size=b12):=hb12
 have HT5:Hid (aa W0 V5 t M' p'∧At V5 b3 cm.vs 24∧G.At V5 b12 x.vs 44):=⟨(HT.out.1.later b4).later b5,(HT.out.2.later b4 HT.out.2.lt).later b5 (by have:=HT.out.2.lt;have:=b4.size;omega),by rw [←hb12];exact A12⟩
 clear hst A12 b4 b5 hx hmo hb12 HT c35
 by_cases hf:A.f=0
 ·obtain ⟨h1,h2,h3,h4⟩:=HSY.out.2 hf
  rw [hf,show ai 0=.nilIface from rfl]
  have c38:V5.cell? ⟨b3,8,.none⟩=some (.string cm.wa):=HT5.out.2.1.cell 8
  have c122:V5.cell? ⟨b12,2,.none⟩=some (.string cm.wa):=by rw [←h3];exact HT5.out.2.2.cell 2
  have HFL:Hid (M'.fly.length=nn+3):=h4
  have hb38:=c38
  have hb122:=c122
  subst h2
  clear HSY hf h3 h4 hb38 hb122
  go_upto_region 10 with (with_reducible refine cu HST.out rfl rfl ?_)
  rw [HB12.out]
  go_wp2_with fail
  refine (aaj HT5.out.1 (by rw [HFL.out];have:=HN0.out;omega)).mono ?_
  rintro r V6 ⟨fv2,rfl,ho,hn,b6⟩
  obtain ⟨af2,cf2,hfv⟩:=ho.form
  rw [HFL.out] at hfv
  rw [hfv]
  have HE:Hid (Below w.heap.size w V6):=HB0.out.trans (((HT5.out.1.later b6).bw).mono HB0.out.size)
  have hn40:nn≤40:=HN0.out
  clear ho hn b6 hfv c38 c122 HST HB12
  go_wp2
  go_ret
  exact ⟨rfl,HE.out⟩
 ·obtain ⟨h1,h2,h3⟩:=HSY.out.1 hf
  rw [ut hf]
  have HNU:Hid (∀ W,Calls Tryz.prog 29 #[.iface 96 (.int .i64 A.f)] W fun e w'=>e=.returned (.int .i64 A.f)∧w'=W):=fun W=>by rw [←ut hf];exact aa2 A.f W
  have HFL:Hid (M'.fly.length=nn):=h2
  have HF9:Hid (A.f=9→mo=true∧x.d≠cm.wa):=h3
  have c38:V5.cell? ⟨b3,8,.none⟩=some (.string cm.wa):=HT5.out.2.1.cell 8
  have c122:V5.cell? ⟨b12,2,.none⟩=some (.string x.d):=HT5.out.2.2.cell 2
  clear HSY h2 h3
  go_upto_region 10 with (with_reducible refine cu HST.out rfl rfl ?_)
  rw [HB12.out]
  go_wp2_with fail
  refine (aaj HT5.out.1 (by rw [HFL.out];have:=HN0.out;omega)).mono ?_
  rintro r V6 ⟨fv2,rfl,ho,hn,b6⟩
  obtain ⟨af2,cf2,hfv⟩:=ho.form
  rw [HFL.out] at hfv
  rw [hfv]
  replace c38:=K.cell_later b6 c38
  replace c122:=K.cell_later b6 c122
  have HE:Hid (Below w.heap.size w V6):=HB0.out.trans (((HT5.out.1.later b6).bw).mono HB0.out.size)
  have hn40:nn≤40:=HN0.out
  clear ho hn b6 hfv HST HB12
  go_wp2_with fail
  refine (HNU.out _).mono ?_
  rintro r V7 ⟨rfl,hW⟩
  obtain rfl:=hW.symm
  by_cases hf9:A.f=9
  ·obtain ⟨rfl,hd⟩:=HF9.out hf9
   have hd':(x.d.toList == cm.wa.toList)=false:=(Lib.bytes_beq_false_iff _ _).2 hd
   rw [hf9]
   clear hd HF9
   go_wp2
   go_ret
   exact ⟨rfl,HE.out⟩
  ·have hf9':¬(A.f=9):=hf9
   clear HF9
   go_wp2
   go_ret
   exact ⟨rfl,HE.out⟩
end Go.Proofs.YtpkhdihoijkamaaGreatDoor.U
