/- Several texts of this seat in one: UPlayM, UOpened, UWorks, USync, UPlay, UPlayed, UEpoch, UAct. No statement of the seat is proved here. -/
import Derived.Test.YtpkhdihoijkamaaGreatDoorWT
import Derived.Test.YtpkhdihoijkamaaGreatDoorZA36
import Derived.Test.YtpkhdihoijkamaaGreatDoorZA30
import Derived.Test.YtpkhdihoijkamaaGreatDoorZA12
import Derived.Test.YtpkhdihoijkamaaGreatDoorZA28
import Derived.Test.YtpkhdihoijkamaaGreatDoorZA26
import Derived.Test.YtpkhdihoijkamaaGreatDoorZA01
import Derived.Test.YtpkhdihoijkamaaGreatDoorZA27
set_option maxHeartbeats 32000000
set_option maxRecDepth 100000
namespace Go.Proofs.YtpkhdihoijkamaaGreatDoor.U
open Go.ChangeShapes Go.WideShapes Go.ChangeAt Go.RowKit Go.Deep Go.Maps
open Go.Proofs.YtpkhdihoijkamaaGreatDoor.D
theorem aae (M:TM):(dx M).e=M.e∧(dx M).s=M.s∧(dx M).D=M.D∧(dx M).up=M.up:=by
 unfold dx;split <;> exact ⟨rfl,rfl,rfl,rfl⟩
theorem SI.ready {M:TM} (h:SI M):SI (dx M):=h.with (aae M).1 (aae M).2.1 (aae M).2.2.1
theorem SI.begin {M:TM} (h:SI M) (ok:G.GOK M.rs M.up) {s:KS} (hs:s.f=0):SI (gq M s).2:=by
 rcases yx h ok hs with ⟨_,e⟩|⟨_,_,e⟩|⟨_,_,D',e,h2⟩
 ·rw [e];exact h
 ·rw [e];exact h.ready
 ·exact h2
theorem SI.allow {M:TM} (h:SI M) (c:CmD):SI (ic M c):=by
 unfold ic;split
 ·exact h.ready
 ·exact h
theorem SI.out {M:TM} (h:SI M) {c:CmD} (hc:c.f=0) (h0:(c.o M.s).f=0):(outS (c.o M.s)).f=0:=by
 exact do_valid h.f (cmd_ok hc) h0
theorem SI.changeA {M:TM} (h:SI M) (ok:G.GOK M.rs M.up) {c:CmD} (hc:c.f=0) (h0:(c.o M.s).f=0):SI (ol M (c.o M.s)).2:=by
 have hs:=h.out hc h0
 unfold ol
 split
 ·exact h.begin ok hs
 ·exact (h.keep ⟨h.e1,h.e9⟩ hs).2.2.2
theorem SI.change {M:TM} (h:SI M) (ok:G.GOK M.rs M.up) {c:CmD} (hc:c.f=0):SI (lu M c).2:=by
 unfold lu
 split
 ·rename_i h0
  have h1:=h.changeA ok hc h0
  split
  ·exact h1.with rfl rfl rfl
  ·exact h1
 ·exact h
theorem SI.ask {M:TM} (h:SI M) (ok:G.GOK M.rs M.up) (c:CmD):SI (av M c).2:=by
 unfold av
 split
 ·rename_i hc
  have h1:SI (iw M c):=h.with rfl rfl rfl
  split
  ·unfold kr
   split
   ·unfold j4
    split
    ·split
     ·exact (h1.allow c).with rfl rfl rfl
     ·exact h1.allow c
    ·exact h1.allow c
   ·split
    ·unfold qb
     split
     ·unfold qp
      split
      ·exact h1.allow c
      ·exact (h1.allow c).with rfl rfl rfl
     ·exact h1.allow c
    ·split
     ·unfold jg
      split
      ·unfold zt
       split
       ·split
        ·split
         ·exact h1.allow c
         ·exact (h1.allow c).with rfl rfl rfl
        ·exact h1.allow c
       ·exact h1.allow c
      ·exact h1.allow c
     ·exact h1.change ok hc
  ·exact h1
 ·exact h
theorem SI.count {M:TM} (h:SI M) (m:ed):SI (qw M m):=by
 unfold qw
 split
 ·split <;> exact h.with rfl rfl rfl
 ·exact h
theorem SI.deliver {M:TM} (h:SI M) (i:Int) (st:Bool):SI (l7 M i st).2.2:=by
 have hd:∀ m j,SI (q8 M m j st):=fun m j=>by unfold q8 ww;split <;> exact h.with rfl rfl rfl
 unfold l7
 split
 ·exact h
 ·split
  ·exact (hd _ _).count _
  ·exact hd _ _
theorem SI.lose {M:TM} (h:SI M) (i:Int):SI (ug M i).2:=by
 unfold ug ww;split
 ·exact h.with rfl rfl rfl
 ·exact h
theorem SI.up {M:TM} (h:SI M) (i:Int) (b:Bool):SI (upM M i b).2:=by
 unfold upM;split
 ·exact h.with rfl rfl rfl
 ·exact h
theorem SI.sync {M:TM} (h:SI M) (i:Int):SI (qg M i).2:=by
 unfold qg;split
 ·split
  ·exact h.with rfl rfl rfl
  ·exact h
 ·exact h
theorem pow_ok {s:KS} (h:s.f=0):(bf s).f=0:=by
 unfold bf
 split
 ·unfold KS.f Go.Proofs.YtpkhdihoijkamaaGreatDoor.fault at h ⊢
  simp only
  split at h
  ·exact absurd h (by decide)
  ·rw [if_neg (by decide)];exact h
 ·exact KS.none_ok
theorem SI.power {M:TM} (h:SI M) (ok:G.GOK M.rs M.up):SI (iq M).2:=by
 have h1:=h.begin ok (pow_ok h.f)
 unfold iq;split
 ·exact h1.with rfl rfl rfl
 ·exact h1
theorem SI.new0 {M:TM} (h:SI M):SI (qx M.e M.s M.D M.rs M.up):=h.with rfl rfl rfl
theorem new0TI (e:Int) (s:KS) (D:DM) (rs:List G.Rep) (up:List Bool):TI (qx e s D rs up) 0:=⟨fun m hm=>by simp [qx] at hm,fun tag=>by constructor <;> (show _;simp [xe,qx,DataW.atKey]),Nat.zero_le _,Nat.zero_le _,Nat.le_refl _,Int.le_refl 0,Int.le_refl 0,fun _ _=>by simp [qx,noL]⟩
theorem new_fails {M:TM} (h:SI M) (ok:G.GOK M.rs M.up) (h0:(dm M.e M.s M.D M.rs M.up).1≠0):(dm M.e M.s M.D M.rs M.up).2.D=M.D∧(dm M.e M.s M.D M.rs M.up).2.e=M.e∧(dm M.e M.s M.D M.rs M.up).2.s=M.s:=by
 have hc:=yx (M:=qx M.e M.s M.D M.rs M.up) h.new0 ok (show M.s.f=0 from h.f)
 rcases hc with ⟨_,e⟩|⟨_,_,e⟩|⟨_,_,D',e,h2⟩
 ·unfold dm;rw [e];exact ⟨rfl,rfl,rfl⟩
 ·unfold dm;rw [e];have:=aae (qx M.e M.s M.D M.rs M.up);exact ⟨this.2.2.1,this.1,this.2.1⟩
 ·unfold dm at h0;rw [e] at h0;exact absurd rfl h0
def cmA (x:ig):CmD:=⟨x.op,x.who,x.key,x.new,x.cty,x.at',x.cst,x.da,x.wa⟩
def gy (M:TM) (x:ig):Bool × TM :=
 if (x.kind.toList == [97,115,107])=true then (false,(av M (cmA x)).2)
 else if (x.kind.toList == [100,101,108,105,118,101,114])=true then (false,(l7 M x.a (x.b == 1)).2.2)
 else if (x.kind.toList == [108,111,115,101])=true then (false,(ug M x.a).2)
 else if (x.kind.toList == [117,112])=true then (false,(upM M x.a true).2)
 else if (x.kind.toList == [100,111,119,110])=true then (false,(upM M x.a false).2)
 else if (x.kind.toList == [115,121,110,99])=true then (false,(qg M x.a).2)
 else if (x.kind.toList == [112,111,119,101,114])=true then (false,(iq M).2)
 else if (dm M.e M.s M.D M.rs M.up).1=0 then (true,(dm M.e M.s M.D M.rs M.up).2) else (false,M)
theorem SI.play {M:TM} (h:SI M) (ok:G.GOK M.rs M.up) (x:ig):SI (gy M x).2:=by
 unfold gy
 repeat' split
 ·exact h.ask ok _
 ·exact h.deliver _ _
 ·exact h.lose _
 ·exact h.up _ _
 ·exact h.up _ _
 ·exact h.sync _
 ·exact h.power ok
 ·exact SI.begin (M:=qx M.e M.s M.D M.rs M.up) h.new0 ok h.f
 ·exact h
theorem TI.play {M:TM} {N:Nat} (h:TI M N) (hW:Tidy M.W) (x:ig):TI (gy M x).2 (N+1):=by
 unfold gy
 repeat' split
 ·exact h.ask hW _
 ·exact (h.deliver hW _ _).mono (Nat.le_succ _)
 ·exact (h.lose _).mono (Nat.le_succ _)
 ·exact (h.up _ _).mono (Nat.le_succ _)
 ·exact (h.up _ _).mono (Nat.le_succ _)
 ·exact (h.sync _).mono (Nat.le_succ _)
 ·exact h.power.mono (Nat.le_succ _)
 ·exact ((new0TI M.e M.s M.D M.rs M.up).begin M.s).mono (Nat.zero_le _)
 ·exact h.mono (Nat.le_succ _)
def dh (D:DM):TM:=⟨2,KS.none,D,G.d9 (G.d9 (G.newR 3) (G.newU 3) 1) (G.newU 3) 2,G.newU 3,noL,[],.map [],[],0⟩
theorem openTI (D:DM):TI (dh D) 0:=⟨fun m hm=>by simp [dh] at hm,fun tag=>by constructor <;> (show _;simp [xe,dh,DataW.atKey]),Nat.zero_le _,Nat.zero_le _,Nat.le_refl _,Int.le_refl 0,Int.le_refl 0,fun _ _=>by simp [dh,noL]⟩
theorem ada (w:World) (hL:K.Laid w) :
 Calls Tryz.prog 30 #[] w fun r w'=>∃ t p D,r=.returned (.tuple #[.pointer (some ⟨p.b,0,.none⟩),.pointer (some ⟨t,0,.none⟩),.bool true])∧aa w w' t (dh D) p∧SI (dh D):=by
 have HL:Hid (K.Laid w):=hL
 clear hL
 go_enter Tryz.func30,Tryz.ntmps30
 go_wp2_with fail
 refine (new_any w 10 (by decide) (by decide)).mono ?_
 rintro r W1 ⟨b,P,rfl,hd,bw,b1,b2,b3,b4,hsv⟩
 have HD:Hid (Dk w W1 b 10 (lq 10) P):=⟨hd,bw,new_above b1 b2 b3 b4 hsv⟩
 clear hd bw b1 b2 b3 b4 hsv
 have hF:=store_ck (Ck.new (by decide)) HD.out.d.ok (df 1 KS.none) (abe (by decide) KS.none_ok)
 have hC:=store_calm (Calm.new 10) HD.out.d.ok (df 1 KS.none) (abe (by decide) KS.none_ok)
 have HC:Hid (Ck (lw (lq 10) 10 (df 1 KS.none)) (gm (df 1 KS.none))∧Go.Proofs.YtpkhdihoijkamaaGreatDoor.D.Calm (lw (lq 10) 10 (df 1 KS.none))):=by
  rcases hF with ⟨_,h⟩|⟨h,_⟩
  ·exact ⟨h,hC.2⟩
  ·rw [hC.1] at h;exact absurd h (by decide)
 have HS0:Hid (qc (lq 10) 10 (df 1 KS.none)=0):=hC.1
 clear hF hC
 go_wp2_with fail
 refine (format_any HD.out.d (HL.out.later HD.out.bw)).mono ?_
 rintro r W2 ⟨rfl,P2,hd,hm⟩
 rw [if_neg (by decide),HS0.out,show Go.Proofs.YtpkhdihoijkamaaGreatDoor.D.ai 0=.nilIface from rfl]
 rw [if_neg (by decide)] at hd
 have HD2:Hid (Dk w W2 b 10 (lw (lq 10) 10 (df 1 KS.none)) P2):=HD.out.disk hd hm
 obtain ⟨D2,hD2⟩:∃ x,x=lw (lq 10) 10 (df 1 KS.none):=⟨_,rfl⟩
 rw [←hD2] at HD2 HC
 clear hd hm HD hD2 HS0
 go_wp2_with fail
 refine (G.gnew_any W2).mono ?_
 rintro r W3 ⟨rfl,bg⟩
 have HD3:Hid (Dk w W3 b 10 D2 P2):=HD2.out.later bg
 have hSI:SI (qx 1 KS.none D2 (G.newR 3) (G.newU 3)):=⟨HC.out.1,HC.out.2,HD3.out.d.ok,KS.none_ok,Int.le_refl 1,show (1:Int)≤1000000 by decide⟩
 have hcal:=yx hSI (G.yh 3) KS.none_ok
 have hrd:mi (qx 1 KS.none D2 (G.newR 3) (G.newU 3))=true:=by rfl
 have hnew:∃ D3,dm 1 KS.none D2 (G.newR 3) (G.newU 3)=(0,dh D3)∧SI (dh D3):=by
  rcases hcal with ⟨h,_⟩|⟨_,h,_⟩|⟨_,_,D3,h,h2⟩
  ·rw [hrd] at h;cases h
  ·exact absurd h (show ¬(1:Int)=1000000 by decide)
  ·refine ⟨D3,h,?_⟩
   rw [h] at h2;exact h2
 obtain ⟨D3,hN,hS3⟩:=hnew
 have HN:Hid (dm 1 KS.none D2 (G.newR 3) (G.newU 3)=(0,dh D3)∧SI (dh D3)):=⟨hN,hS3⟩
 clear bg hSI hcal hrd hN hS3 HD2
 have HNEW:=tnew_any HD3.out.d HC.out.1.up 1 KS.none KS.none_ok (by decide) (by decide) HC.out.1.now HL.out HD3.out.bw HD3.out.ld (G.yh 3)
 obtain ⟨rs,hrs⟩:∃ rs,G.newR 3=rs:=⟨_,rfl⟩
 obtain ⟨up,hup⟩:∃ up,G.newU 3=up:=⟨_,rfl⟩
 rw [hrs,hup] at HNEW HN ⊢
 have HNW:Hid (Calls Tryz.prog 37 #[.pointer (some ⟨b,0,.none⟩),.agg (G.grV rs up).toArray] W3 fun r w'=>∃ t p,aa w w' t (dm 1 KS.none D2 rs up).2 p∧p.b=b∧W3.heap.size≤t∧ae (DF P2 b) p.F W3 w' ∧
  ((dm 1 KS.none D2 rs up).1=0→r=.returned (.tuple #[.pointer (some ⟨t,0,.none⟩),.nilIface]))∧((dm 1 KS.none D2 rs up).1≠0→r=.returned (.tuple #[.pointer .none,ai (dm 1 KS.none D2 rs up).1]))):=HNEW
 clear HNEW hrs hup
 go_wp2_with fail
 refine HNW.out.mono ?_
 rintro r W4 ⟨t,p,hT,hpb,_,_,h0,_⟩
 rw [HN.out.1] at hT h0
 obtain rfl:=h0 rfl
 have HT:Hid (aa w W4 t (dh D3) p):=hT
 have HPB:Hid (p.b=b):=hpb
 clear hT hpb h0
 go_wp2
 exact bodyPost_ret (ret_ttt Tryz.results30) rfl ⟨t,p,D3,by rw [HPB.out];rfl,HT.out,HN.out.2⟩
def hay:ByteArray:=⟨#[104,97,121]⟩
def cW:CmD:=⟨8,1,0,0,0,3,false,hay,⟨#[]⟩⟩
def cR:CmD:=⟨7,2,0,0,0,3,false,⟨#[]⟩,⟨#[]⟩⟩
def wM1 (D:DM):TM:=(av (dh D) cW).2
def wM2 (D:DM):TM:=(l7 (wM1 D) 0 false).2.2
def wM3 (D:DM):TM:=(l7 (wM2 D) 0 false).2.2
theorem works1 (D:DM):(av (dh D) cW).1=⟨ll,1,0,0⟩:=by kernel_rfl
theorem works2 (D:DM):(l7 (wM1 D) 0 false).1=true∧(l7 (wM1 D) 0 false).2.1=0:=⟨by kernel_rfl,by kernel_rfl⟩
theorem works3 (D:DM):(l7 (wM2 D) 0 false).1=true∧(l7 (wM2 D) 0 false).2.1=0:=⟨by kernel_rfl,by kernel_rfl⟩
theorem works4 (D:DM):(av (wM3 D) cR).1=⟨hay,0,0,0⟩:=by kernel_rfl
theorem zy (w:World) (hL:K.Laid w):Calls Tryz.prog 15 #[] w fun r w'=>r=.returned (.bool true)∧Below w.heap.size w w':=by
 have HL:Hid (K.Laid w):=hL
 clear hL
 go_enter Tryz.func15,Tryz.ntmps15
 go_wp2_with fail
 refine (ada w HL.out).mono ?_
 rintro r W1 ⟨t,p,D,rfl,hT,_⟩
 have h0:TI (dh D) 0:=openTI D
 have h1:TI (wM1 D) 1:=h0.ask (by exact tidy_empty) cW
 have HA:Hid (Calls Tryz.prog 36 #[.pointer (some ⟨t,0,.none⟩),.agg #[.int .i64 8,.int .i64 1,.int .i64 0,.int .i64 0,.int .i64 0,.int .i64 3,.bool false,.string ⟨#[104,97,121]⟩,.string ⟨#[]⟩]] W1 fun r w'=>r=.returned (.tuple #[.string ⟨#[]⟩,.int .i64 1,.int .i64 0,.nilIface]) ∧
  ∃ p',aa w w' t (wM1 D) p'):=by
  refine (zu hT HL.out h0 (by decide) cW (by decide) (by decide) (by decide)).mono ?_
  rintro r w' ⟨rfl,p',ht,_⟩
  rw [works1]
  exact ⟨rfl,p',ht⟩
 have HI:Hid (TI (wM1 D) 1):=h1
 clear hT h0 h1
 go_wp2_with fail
 refine HA.out.mono ?_
 rintro r W2 ⟨rfl,p2,hT⟩
 have h2:TI (wM2 D) 1:=HI.out.deliver (hT.mp.tidy x9) 0 false
 have HD1:Hid (Calls Tryz.prog 25 #[.pointer (some ⟨t,0,.none⟩),.int .i64 0,.bool false] W2 fun r w'=>r=.returned (.tuple #[.bool true,.nilIface])∧∃ p',aa w w' t (wM2 D) p'):=by
  refine (adv hT HI.out (by decide) 0 false).mono ?_
  rintro r w' ⟨rfl,p',ht,_⟩
  rw [(works2 D).1,(works2 D).2]
  exact ⟨rfl,p',ht⟩
 have HI2:Hid (TI (wM2 D) 1):=h2
 clear hT h2 HA HI
 go_wp2_with fail
 refine HD1.out.mono ?_
 rintro r W3 ⟨rfl,p3,hT⟩
 have h3:TI (wM3 D) 1:=HI2.out.deliver (hT.mp.tidy x9) 0 false
 have HD2:Hid (Calls Tryz.prog 25 #[.pointer (some ⟨t,0,.none⟩),.int .i64 0,.bool false] W3 fun r w'=>r=.returned (.tuple #[.bool true,.nilIface])∧∃ p',aa w w' t (wM3 D) p'):=by
  refine (adv hT HI2.out (by decide) 0 false).mono ?_
  rintro r w' ⟨rfl,p',ht,_⟩
  rw [(works3 D).1,(works3 D).2]
  exact ⟨rfl,p',ht⟩
 have HI3:Hid (TI (wM3 D) 1):=h3
 clear hT h3 HD1 HI2
 go_wp2_with fail
 refine HD2.out.mono ?_
 rintro r W4 ⟨rfl,p4,hT⟩
 have HR:Hid (Calls Tryz.prog 36 #[.pointer (some ⟨t,0,.none⟩),.agg #[.int .i64 7,.int .i64 2,.int .i64 0,.int .i64 0,.int .i64 0,.int .i64 3,.bool false,.string ⟨#[]⟩,.string ⟨#[]⟩]] W4 fun r w'=>r=.returned (.tuple #[.string ⟨#[104,97,121]⟩,.int .i64 0,.int .i64 0,.nilIface]) ∧
  Below w.heap.size w w'):=by
  refine (zu hT HL.out HI3.out (by decide) cR (by decide) (by decide) (by decide)).mono ?_
  rintro r w' ⟨rfl,p',ht,_⟩
  rw [works4]
  exact ⟨rfl,ht.bw⟩
 clear hT HD2 HI3
 go_wp2_with fail
 refine HR.out.mono ?_
 rintro r W5 ⟨rfl,hb⟩
 have HB:Hid (Below w.heap.size w W5):=hb
 clear hb HR HL
 go_wp2
 go_ret
 exact ⟨rfl,HB.out⟩
attribute [local go_sem] zc78
theorem tsync_any {w0 w:World} {t:Nat} {M:TM} {p:TP} (h:aa w0 w t M p) (i:Int) :
 Calls Tryz.prog 43 #[.pointer (some ⟨t,0,.none⟩),.int .i64 i] w fun r w'=>r=.returned (ai (qg M i).1)∧aa w0 w' t (qg M i).2 p∧ae p.F p.F w w':=by
 have HT:Hid (aa w0 w t M p):=h
 have HIG:Hid (Calls Tryz.prog 74 #[.int .i64 i] w fun r w'=>r=.returned (.bool (decide (0≤i) && decide (i<3)))∧w'=w):=inGroup_any i w
 have HF:Hid (∀ W,Calls Tryz.prog 83 #[.agg (G.grV M.rs M.up).toArray,.int .i64 M.e,.int .i64 i] W fun r w'=>r=.returned (.tuple #[.agg (G.grV (G.kz M.rs M.up M.e i) M.up).toArray,.bool (G.qz M.rs M.up M.e i)])∧Below W.heap.size W w') :=
  fun W=>G.sync_any M.rs M.up M.e i W h.ok
 have HG:Hid (G.GOK (G.kz M.rs M.up M.e i) M.up):=G.syncG_ok h.ok _ _
 clear h
 by_cases hi:0≤i∧i<3
 case neg =>
  rw [show (decide (0≤i) && decide (i<3))=false by simp;omega] at HIG
  have HX:Hid (qg M i=(8,M)):=by show _=_;unfold qg;rw [if_neg hi]
  clear hi
  go_enter Tryz.func43,Tryz.ntmps43
  go_wp2_with fail
  refine HIG.out.mono ?_
  rintro r W ⟨rfl,hW⟩
  obtain rfl:=hW.symm
  go_wp2
  go_ret
  exact ⟨by rw [HX.out];rfl,by rw [HX.out];exact HT.out,ae.refl _ _⟩
 rw [show (decide (0≤i) && decide (i<3))=true by simp;omega] at HIG
 have HX:Hid (qg M i=if G.qz M.rs M.up M.e i=true then (0,{ M with rs:=G.kz M.rs M.up M.e i }) else (7,M)):=by show _=_;unfold qg;rw [if_pos hi]
 obtain ⟨rs2,hrs⟩:∃ rs2,G.kz M.rs M.up M.e i=rs2:=⟨_,rfl⟩
 obtain ⟨okb,hokb⟩:∃ okb,G.qz M.rs M.up M.e i=okb:=⟨_,rfl⟩
 rw [hrs,hokb] at HF HX
 rw [hrs] at HG
 clear hrs hokb hi
 go_enter Tryz.func43,Tryz.ntmps43
 go_wp2_with fail
 refine HIG.out.mono ?_
 rintro r W ⟨rfl,hW⟩
 obtain rfl:=hW.symm
 go_upto_region 3 with fail
 refine ql (S:=fun w'=>aa w0 w' t M p) (by kernel_rfl) ?_
 intro V hV bV sV
 have HB:Hid (Below w.heap.size w V):=bV
 have HS:Hid (aa w0 V t M p):=HT.out.later HB.out
 clear hV bV sV
 refine' joinW1 (F:=fun Y c11=>Below w.heap.size w Y∧(aa w0 Y t M p)∧G.At Y c11 G.z78 51∧w.heap.size≤c11) (h1:=?main) (h2:=?rest)
 case main =>
  intro HJ
  refine wpG 0 (.pointer (some ⟨t,0,.none⟩)) HS.out ?_
  refine wpG 4 (.pointer (some ⟨t,0,.none⟩)) HS.out ?_
  refine wpG 6 (.int .i64 i) HS.out ?_
  (try simp [Act.put])
  refine wpG 1 (.pointer (some ⟨t,0,.none⟩)) HS.out ?_
  (try simp [Act.put])
  refine wpG 2 (.pointer (some ⟨t,1,.none⟩)) HS.out ?_
  (try simp [Act.put])
  refine wpT 3 (.agg (G.grV M.rs M.up).toArray) (.inl ⟨rfl,fun w' hw'=>?_⟩) HS.out ?_
  ·exact jc hw'.loadG rfl
  (try simp [Act.put])
  refine wpB 5 11 ?_ ?_
  ·refine wpS ?_
   go_wp2_with fail
   refine (aa.ep HS.out).mono ?_
   rintro r Y1 ⟨rfl,hW⟩
   obtain rfl:=hW.symm
   refine ⟨HS.out,?_⟩
   (try simp [Act.put])
   refine wpB 7 11 ?_ ?_
   ·refine wpS ?_
    go_wp2_with fail
    refine (HF.out _).mono ?_
    rintro r Y2 ⟨rfl,b1⟩
    replace HB:Hid (Below w.heap.size w Y2):=bu HB.out b1
    replace HS:Hid (aa w0 Y2 t M p):=HT.out.later HB.out
    clear b1
    refine ⟨HS.out,?_⟩
    (try simp [Act.put])
    refine wpG 8 (.tuple #[.agg (G.grV rs2 M.up).toArray,.bool okb]) HS.out ?_
    (try simp [Act.put])
    refine wpG 9 (.agg (G.grV rs2 M.up).toArray) HS.out ?_
    refine wpG 10 (.bool okb) HS.out ?_
    (try simp [Act.put])
    refine wpA 11 ?_
    obtain ⟨Y3,hY,a5,b5,s5⟩:=Go.Proofs.YtpkhdihoijkamaaGreatDoor.D.one Y2 (.cells G.z78.toArray 51)
    refine wpS ?_
    go_wp2_with fail
    rw [←hY]
    clear hY
    have HA11:Hid (G.At Y3 Y2.heap.size G.z78 51):=a5
    have HL11:Hid (w.heap.size≤Y2.heap.size):=HB.out.size
    obtain ⟨c11,hc⟩:∃ c11,Y2.heap.size=c11:=⟨_,rfl⟩
    replace HB:Hid (Below w.heap.size w Y3):=bu HB.out b5
    replace HS:Hid (aa w0 Y3 t M p):=HT.out.later HB.out
    rw [hc] at HA11 HL11 ⊢
    clear a5 b5 s5 hc
    refine ⟨HS.out,?_⟩
    (try simp [Act.put])
    exact HJ.out Y3 c11 ⟨HB.out,HS.out,HA11.out,HL11.out⟩
   ·obtain ⟨Y4,hY,a5,b5,s5⟩:=Go.Proofs.YtpkhdihoijkamaaGreatDoor.D.one V (.cells G.z78.toArray 51)
    refine wpS ?_
    go_wp2_with fail
    rw [←hY]
    clear hY
    have HA11:Hid (G.At Y4 V.heap.size G.z78 51):=a5
    have HL11:Hid (w.heap.size≤V.heap.size):=HB.out.size
    obtain ⟨c11,hc⟩:∃ c11,V.heap.size=c11:=⟨_,rfl⟩
    replace HB:Hid (Below w.heap.size w Y4):=bu HB.out b5
    replace HS:Hid (aa w0 Y4 t M p):=HT.out.later HB.out
    rw [hc] at HA11 HL11 ⊢
    clear a5 b5 s5 hc
    refine ⟨HS.out,?_⟩
    (try simp [Act.put])
    refine wpA 7 (wpS ?_)
    go_wp2_with fail
    refine (HF.out _).mono ?_
    rintro r Y5 ⟨rfl,b1⟩
    replace HB:Hid (Below w.heap.size w Y5):=bu HB.out b1
    replace HA11:Hid (G.At Y5 c11 G.z78 51):=HA11.out.later b1 HA11.out.lt
    replace HS:Hid (aa w0 Y5 t M p):=HT.out.later HB.out
    clear b1
    refine ⟨HS.out,?_⟩
    (try simp [Act.put])
    refine wpG 8 (.tuple #[.agg (G.grV rs2 M.up).toArray,.bool okb]) HS.out ?_
    (try simp [Act.put])
    refine wpG 9 (.agg (G.grV rs2 M.up).toArray) HS.out ?_
    refine wpG 10 (.bool okb) HS.out ?_
    (try simp [Act.put])
    exact HJ.out Y5 c11 ⟨HB.out,HS.out,HA11.out,HL11.out⟩
  ·obtain ⟨Y6,hY,a5,b5,s5⟩:=Go.Proofs.YtpkhdihoijkamaaGreatDoor.D.one V (.cells G.z78.toArray 51)
   refine wpS ?_
   go_wp2_with fail
   rw [←hY]
   clear hY
   have HA11:Hid (G.At Y6 V.heap.size G.z78 51):=a5
   have HL11:Hid (w.heap.size≤V.heap.size):=HB.out.size
   obtain ⟨c11,hc⟩:∃ c11,V.heap.size=c11:=⟨_,rfl⟩
   replace HB:Hid (Below w.heap.size w Y6):=bu HB.out b5
   replace HS:Hid (aa w0 Y6 t M p):=HT.out.later HB.out
   rw [hc] at HA11 HL11 ⊢
   clear a5 b5 s5 hc
   refine ⟨HS.out,?_⟩
   (try simp [Act.put])
   refine wpA 5 (wpS ?_)
   go_wp2_with fail
   refine (aa.ep HS.out).mono ?_
   rintro r Y7 ⟨rfl,hW⟩
   obtain rfl:=hW.symm
   refine ⟨HS.out,?_⟩
   (try simp [Act.put])
   refine wpA 7 (wpS ?_)
   go_wp2_with fail
   refine (HF.out _).mono ?_
   rintro r Y8 ⟨rfl,b1⟩
   replace HB:Hid (Below w.heap.size w Y8):=bu HB.out b1
   replace HA11:Hid (G.At Y8 c11 G.z78 51):=HA11.out.later b1 HA11.out.lt
   replace HS:Hid (aa w0 Y8 t M p):=HT.out.later HB.out
   clear b1
   refine ⟨HS.out,?_⟩
   (try simp [Act.put])
   refine wpG 8 (.tuple #[.agg (G.grV rs2 M.up).toArray,.bool okb]) HS.out ?_
   (try simp [Act.put])
   refine wpG 9 (.agg (G.grV rs2 M.up).toArray) HS.out ?_
   refine wpG 10 (.bool okb) HS.out ?_
   (try simp [Act.put])
   exact HJ.out Y8 c11 ⟨HB.out,HS.out,HA11.out,HL11.out⟩
 case rest =>
  clear HB HS
  intro Y c11 ⟨hb,hs,a11,l11⟩
  have HB:Hid (Below w.heap.size w Y):=hb
  have HS:Hid (aa w0 Y t M p):=hs
  have HA11:Hid (G.At Y c11 G.z78 51):=a11
  have HL11:Hid (w.heap.size≤c11):=l11
  clear hb hs a11 l11
  refine wpA 12 ?_
  have hst:=G.uf HA11.out rfl HG.out.vlen (G.tu rs2 M.up)
  have A6:=G.At.set (G.grV rs2 M.up) 0 _ _ HA11.out
  rw [G.ik _ _ (by rw [HG.out.vlen];rfl)] at A6
  have HB2:Hid (Below w.heap.size w (Y.setCells c11 0 (G.grV rs2 M.up))):=below_setCells HL11.out (G.grV rs2 M.up) 0 _ HB.out
  generalize Y.setCells c11 0 (G.grV rs2 M.up)=Z at *
  have HS2:Hid (aa w0 Z t M p):=HT.out.later HB2.out
  refine Go.Proofs.YtpkhdihoijkamaaGreatDoor.D.ma hst rfl rfl rfl rfl ⟨HS2.out,?_⟩
  clear hst HA11 HB HS
  refine wpG 13 (.bool okb) HS2.out ?_
  (try simp [Act.put])
  refine wpZ ?_
  (try simp [Act.put])
  have HLD:Hid ((Instr.loadAt 51 (.pointer (some ⟨c11,0,.none⟩))).run Tryz.prog Z=.ok (.agg (G.grV rs2 M.up).toArray) Z):=G.gz A6 HG.out.vlen
  clear A6
  by_cases hr:okb=true
  ·rw [hr] at HX ⊢
   obtain ⟨V2,hV,tV,mV,_⟩:=HS2.out.putG HG.out
   have HV:Hid ((Instr.storeAt 51 (.pointer (some ⟨t,1,.none⟩)) (.agg (G.grV rs2 M.up).toArray)).run Tryz.prog Z=.ok () V2):=hV
   have HTV:Hid (aa w0 V2 t { M with rs:=rs2 } p):=tV
   have HMV:Hid (ae p.F p.F w V2):=(ae.of HB2.out (Nat.le_refl _)).trans mV
   clear hr hV tV mV
   go_wp2_with (first|with_reducible refine ak HLD.out rfl rfl ?_|with_reducible refine cu HV.out rfl rfl ?_)
   go_ret
   exact ⟨by rw [HX.out];rfl,by rw [HX.out];exact HTV.out,HMV.out⟩
  ·have hr':okb=false:=by simpa using hr
   rw [hr'] at HX ⊢
   have HMV:Hid (ae p.F p.F w Z):=ae.of HB2.out (Nat.le_refl _)
   clear hr hr'
   go_wp2
   go_ret
   exact ⟨by rw [HX.out];rfl,by rw [HX.out];exact HS2.out,HMV.out⟩
end Go.Proofs.YtpkhdihoijkamaaGreatDoor.U
namespace Go.Proofs.YtpkhdihoijkamaaGreatDoor.U
open Go.ChangeShapes Go.WideShapes Go.ChangeAt Go.RowKit Go.Deep Go.Maps
open Go.Proofs.YtpkhdihoijkamaaGreatDoor.D
theorem load_actC {X:World} {b o:Nat} {x:ig} (h:X.rangeAt b o x.vs) :
 (Instr.loadAt 24 (.pointer (some ⟨b,o+10,.none⟩))).run Tryz.prog X=.ok (.agg (cmA x).vs.toArray) X:=by
 refine load_cmO (c:=cmA x) (fun j v hj=>?_)
 have hj9:j<9:=by have:=(List.getElem?_eq_some_iff.1 hj).1;simpa [CmD.vs] using this
 have:=h (10+j) v (by
  rw [←hj]
  match j,hj9 with
  | 0,_=>rfl
  | 1,_=>rfl
  | 2,_=>rfl
  | 3,_=>rfl
  | 4,_=>rfl
  | 5,_=>rfl
  | 6,_=>rfl
  | 7,_=>rfl
  | 8,_=>rfl)
 rw [←Nat.add_assoc] at this
 exact this
theorem aa.redisk {w0 w w':World} {t:Nat} {M:TM} {p:TP} (h:aa w0 w t M p) {F':Nat→Prop} {P:DP} (hm:ae (DF p.P p.b) F' w w') (hF:∀ q,DF P p.b q→F' q) (hd:DAt w' p.b 10 M.D P) :
 ∃ p',aa w0 w' t M p'∧p'.b=p.b∧ae p.F p'.F w w':=by
 have hk:=h.kk
 have hm1:ae (DF p.P p.b) (DF P p.b) w w':=hm.mono (fun _ f=>f) (fun q f=>.inr (.inl (hF q f)))
 have hnew:∀ q,q<w.heap.size→¬DF p.P p.b q→¬DF P p.b q:=fun q hq hn=>hm1.not hq hn
 have hKK:KK w' p.k p.b 10 M.e M.s p.a p.c M.D P:=⟨hd,hk.kp.moved hm1 hk.ap (fun ad e h0=>(hk.lr ad e h0).1),fun ad e h0=>⟨hnew _ (yo hk.kp.row h0 ad e) (hk.lr ad e h0).1,(hk.lr ad e h0).2⟩,hnew _ hk.kp.hd.lt hk.ap⟩
 have hm2:ae (KF p.P p.b p.k p.a M.s) (KF P p.b p.k p.a M.s) w w':=hm1.mono (fun q f=>.inl f) (fun q f=>by
  rcases f with f|f
  ·exact .inr (.inl f)
  ·exact .inl (.inr f))
 obtain ⟨h1,h2⟩:=h.keep hKK hm2
 exact ⟨_,h1,rfl,h2⟩
theorem tup_any {w0 w:World} {t:Nat} {M:TM} {p:TP} (h:aa w0 w t M p) (i:Int) (b:Bool) :
 Calls Tryz.prog 38 #[.pointer (some ⟨t,0,.none⟩),.int .i64 i,.bool b] w fun r w'=>r=.returned (ai (upM M i b).1)∧aa w0 w' t (upM M i b).2 p∧ae p.F p.F w w':=by
 refine (upT_any h.hd h.len h.ok i b).mono ?_
 intro r w' hh
 unfold upM
 by_cases hi:0≤i∧i<3
 ·rw [if_pos hi] at hh ⊢
  obtain ⟨rfl,hA,hm⟩:=hh
  obtain ⟨h1,h2⟩:=h.head (rs:=M.rs) (up:=M.up.set i.toNat b) (nm:=M.nm) hm (h.ok.up i.toNat b) hA
  exact ⟨rfl,h1,h2⟩
 ·rw [if_neg hi] at hh ⊢
  obtain ⟨rfl,rfl⟩:=hh
  exact ⟨rfl,h,ae.refl _ _⟩
def Played (w0 w w':World) (t:Nat) (p:TP) (y:Bool × TM) (r:Ending):Prop :=
 ∃ t' p',r=.returned (.pointer (some ⟨t',0,.none⟩))∧aa w0 w' t' y.2 p'∧p'.b=p.b∧ae p.F p'.F w w'∧((y.1=false∧t'=t)∨(y.1=true∧w.heap.size≤t'∧∃ l,At w' t l 107))
theorem Played.same {w0 w w':World} {t:Nat} {p p':TP} {M':TM} (h:aa w0 w' t M' p') (hb:p'.b=p.b) (hm:ae p.F p'.F w w'):Played w0 w w' t p (false,M') (.returned (.pointer (some ⟨t,0,.none⟩))) :=
 ⟨t,p',rfl,h,hb,hm,.inl ⟨rfl,rfl⟩⟩
theorem play_any {w0 wa:World} {t:Nat} {Ma:TM} {pa:TP} (h:aa w0 wa t Ma pa) (hL:K.Laid w0) {N:Nat} (hI:TI Ma N) (hN:N<1000000) (hS:SI Ma) (x:ig) (hop:(Lit.int .i64 x.op).wf=true) (hd:x.da.size≤9223372036854775807) (hw:x.wa.size≤9223372036854775807) :
 Calls Tryz.prog 28 #[.pointer (some ⟨pa.b,0,.none⟩),.pointer (some ⟨t,0,.none⟩),.agg x.vs.toArray] wa fun r w'=>Played w0 wa w' t pa (gy Ma x) r:=by
 obtain ⟨X,hX,a0,bX,sX⟩:=Go.Proofs.YtpkhdihoijkamaaGreatDoor.D.one wa (.cells x.vs.toArray 62)
 have A3:At X wa.heap.size x.vs 62:=a0
 have HTa:Hid (aa w0 X t Ma pa):=h.later bX
 have HMa:Hid (ae pa.F pa.F wa X):=ae.of bX (Nat.le_refl _)
 have hlc:(Instr.loadAt 24 (.pointer (some ⟨wa.heap.size,10,.none⟩))).run Tryz.prog X=.ok (.agg (cmA x).vs.toArray) X:=by
  have:=load_actC (X:=X) (b:=wa.heap.size) (o:=0) (x:=x) A3.whole
  simpa using this
 have HLC:Hid ((Instr.loadAt 24 (.pointer (some ⟨wa.heap.size,10,.none⟩))).run Tryz.prog X=.ok (.agg (cmA x).vs.toArray) X):=hlc
 clear hlc
 have c0:X.cell? ⟨wa.heap.size,0,.none⟩=some (.string x.kind):=A3.cell 0
 have c1:X.cell? ⟨wa.heap.size,1,.none⟩=some (.int .i64 x.a):=A3.cell 1
 have c2:X.cell? ⟨wa.heap.size,2,.none⟩=some (.int .i64 x.b):=A3.cell 2
 have HI:Hid (TI Ma N∧N<1000000∧K.Laid w0∧SI Ma):=⟨hI,hN,hL,hS⟩
 have HC:Hid ((Lit.int .i64 x.op).wf=true∧x.da.size≤9223372036854775807∧x.wa.size≤9223372036854775807):=⟨hop,hd,hw⟩
 clear a0 bX sX h hL hI hN hop hd hw A3 hS
 go_enter Tryz.func28,Tryz.ntmps28
 go_upto_region 1 with fail
 rw [←hX]
 clear hX
 obtain ⟨b3,hb3⟩:∃ b3,wa.heap.size=b3:=⟨_,rfl⟩
 have HZ:Hid (b3=wa.heap.size):=hb3.symm
 rw [hb3] at HLC c0 c1 c2 ⊢
 clear hb3
 cases h1:(x.kind.toList == [97,115,107]) with
 | true =>
   have HP:Hid (gy Ma x=(false,(av Ma (cmA x)).2)):=by show _=_;unfold gy;rw [if_pos h1]
   go_wp2_with (with_reducible refine ak HLC.out rfl rfl ?_)
   refine (zu HTa.out HI.out.2.2.1 HI.out.1 HI.out.2.1 (cmA x) HC.out.1 HC.out.2.1 HC.out.2.2).mono ?_
   rintro r W ⟨rfl,p',hT,hk,hb,hm⟩
   have HQ:Hid (aa w0 W t (av Ma (cmA x)).2 p'∧p'.b=pa.b∧ae pa.F p'.F wa W):=⟨hT,hb,HMa.out.trans hm⟩
   clear hT hm HTa HMa HLC HI HC c0 c1 c2
   go_wp2
   go_ret
   rw [HP.out]
   exact .same HQ.out.1 HQ.out.2.1 HQ.out.2.2
 | false =>
 cases h2:(x.kind.toList == [100,101,108,105,118,101,114]) with
 | true =>
   have HP:Hid (gy Ma x=(false,(l7 Ma x.a (x.b == 1)).2.2)):=by show _=_;unfold gy;rw [if_neg (by rw [h1];simp)];rw [if_pos h2]
   go_wp2_with fail
   refine (adv HTa.out HI.out.1 (Nat.le_of_lt HI.out.2.1) x.a (x.b == 1)).mono ?_
   rintro r W ⟨rfl,p',hT,hk,hb,hm⟩
   have HQ:Hid (aa w0 W t (l7 Ma x.a (x.b == 1)).2.2 p'∧p'.b=pa.b∧ae pa.F p'.F wa W):=⟨hT,hb,HMa.out.trans hm⟩
   clear hT hm HTa HMa HLC HI HC c0 c1 c2
   go_wp2
   go_ret
   rw [HP.out]
   exact .same HQ.out.1 HQ.out.2.1 HQ.out.2.2
 | false =>
 cases h3:(x.kind.toList == [108,111,115,101]) with
 | true =>
   have HP:Hid (gy Ma x=(false,(ug Ma x.a).2)):=by show _=_;unfold gy;rw [if_neg (by rw [h1];simp)];rw [if_neg (by rw [h2];simp)];rw [if_pos h3]
   go_wp2_with fail
   refine (lose_any HTa.out x.a (by have:=HI.out.1.fn;omega)).mono ?_
   rintro r W ⟨rfl,p',hT,hk,hb,hm⟩
   have HQ:Hid (aa w0 W t (ug Ma x.a).2 p'∧p'.b=pa.b∧ae pa.F p'.F wa W):=⟨hT,hb,HMa.out.trans hm⟩
   clear hT hm HTa HMa HLC HI HC c0 c1 c2
   go_wp2
   go_ret
   rw [HP.out]
   exact .same HQ.out.1 HQ.out.2.1 HQ.out.2.2
 | false =>
 cases h4:(x.kind.toList == [117,112]) with
 | true =>
   have HP:Hid (gy Ma x=(false,(upM Ma x.a true).2)):=by show _=_;unfold gy;rw [if_neg (by rw [h1];simp)];rw [if_neg (by rw [h2];simp)];rw [if_neg (by rw [h3];simp)];rw [if_pos h4]
   go_wp2_with fail
   refine (tup_any HTa.out x.a true).mono ?_
   rintro r W ⟨rfl,hT,hm⟩
   have HQ:Hid (aa w0 W t (upM Ma x.a true).2 pa∧ae pa.F pa.F wa W):=⟨hT,HMa.out.trans hm⟩
   clear hT hm HTa HMa HLC HI HC c0 c1 c2
   go_wp2
   go_ret
   rw [HP.out]
   exact .same HQ.out.1 rfl HQ.out.2
 | false =>
 cases h5:(x.kind.toList == [100,111,119,110]) with
 | true =>
   have HP:Hid (gy Ma x=(false,(upM Ma x.a false).2)):=by show _=_;unfold gy;rw [if_neg (by rw [h1];simp)];rw [if_neg (by rw [h2];simp)];rw [if_neg (by rw [h3];simp)];rw [if_neg (by rw [h4];simp)];rw [if_pos h5]
   go_wp2_with fail
   refine (tup_any HTa.out x.a false).mono ?_
   rintro r W ⟨rfl,hT,hm⟩
   have HQ:Hid (aa w0 W t (upM Ma x.a false).2 pa∧ae pa.F pa.F wa W):=⟨hT,HMa.out.trans hm⟩
   clear hT hm HTa HMa HLC HI HC c0 c1 c2
   go_wp2
   go_ret
   rw [HP.out]
   exact .same HQ.out.1 rfl HQ.out.2
 | false =>
 cases h6:(x.kind.toList == [115,121,110,99]) with
 | true =>
   have HP:Hid (gy Ma x=(false,(qg Ma x.a).2)):=by show _=_;unfold gy;rw [if_neg (by rw [h1];simp)];rw [if_neg (by rw [h2];simp)];rw [if_neg (by rw [h3];simp)];rw [if_neg (by rw [h4];simp)];rw [if_neg (by rw [h5];simp)];rw [if_pos h6]
   go_wp2_with fail
   refine (tsync_any HTa.out x.a).mono ?_
   rintro r W ⟨rfl,hT,hm⟩
   have HQ:Hid (aa w0 W t (qg Ma x.a).2 pa∧ae pa.F pa.F wa W):=⟨hT,HMa.out.trans hm⟩
   clear hT hm HTa HMa HLC HI HC c0 c1 c2
   go_wp2
   go_ret
   rw [HP.out]
   exact .same HQ.out.1 rfl HQ.out.2
 | false =>
 cases h7:(x.kind.toList == [112,111,119,101,114]) with
 | true =>
   have HP:Hid (gy Ma x=(false,(iq Ma).2)):=by show _=_;unfold gy;rw [if_neg (by rw [h1];simp)];rw [if_neg (by rw [h2];simp)];rw [if_neg (by rw [h3];simp)];rw [if_neg (by rw [h4];simp)];rw [if_neg (by rw [h5];simp)];rw [if_neg (by rw [h6];simp)];rw [if_pos h7]
   go_wp2_with fail
   refine (tpower_any HTa.out HI.out.2.2.1).mono ?_
   rintro r W ⟨rfl,p',hT,hk,hb,hm⟩
   have HQ:Hid (aa w0 W t (iq Ma).2 p'∧p'.b=pa.b∧ae pa.F p'.F wa W):=⟨hT,hb,HMa.out.trans hm⟩
   clear hT hm HTa HMa HLC HI HC c0 c1 c2
   go_wp2
   go_ret
   rw [HP.out]
   exact .same HQ.out.1 HQ.out.2.1 HQ.out.2.2
 | false =>
 have hS:SI Ma:=HI.out.2.2.2
 have HPT:Hid ((dm Ma.e Ma.s Ma.D Ma.rs Ma.up).1=0→gy Ma x=(true,(dm Ma.e Ma.s Ma.D Ma.rs Ma.up).2)):=by
  intro h0
  unfold gy
  rw [if_neg (by rw [h1];simp),if_neg (by rw [h2];simp),if_neg (by rw [h3];simp),if_neg (by rw [h4];simp),if_neg (by rw [h5];simp),if_neg (by rw [h6];simp),if_neg (by rw [h7];simp),if_pos h0]
 have HPF:Hid ((dm Ma.e Ma.s Ma.D Ma.rs Ma.up).1≠0→gy Ma x=(false,Ma)):=by
  intro h0
  unfold gy
  rw [if_neg (by rw [h1];simp),if_neg (by rw [h2];simp),if_neg (by rw [h3];simp),if_neg (by rw [h4];simp),if_neg (by rw [h5];simp),if_neg (by rw [h6];simp),if_neg (by rw [h7];simp),if_neg h0]
 have HNF:Hid ((dm Ma.e Ma.s Ma.D Ma.rs Ma.up).1≠0→(dm Ma.e Ma.s Ma.D Ma.rs Ma.up).2.D=Ma.D):=fun h0=>(new_fails hS HTa.out.ok h0).1
 have HSI:Hid (SI Ma):=hS
 have HL0:Hid (K.Laid w0):=HI.out.2.2.1
 clear hS HI HC HLC
 go_wp2_with fail
 refine (aal HTa.out.hd HTa.out.len).mono ?_
 rintro r W1 ⟨rfl,b1⟩
 replace HTa:Hid (aa w0 W1 t Ma pa):=HTa.out.later b1
 replace HMa:Hid (ae pa.F pa.F wa W1):=HMa.out.trans (ae.of b1 (Nat.le_refl _))
 clear b1 c0 c1 c2
 have HT:=HTa.out
 have HNW:Hid (Calls Tryz.prog 37 #[.pointer (some ⟨pa.b,0,.none⟩),.agg (G.grV Ma.rs Ma.up).toArray] W1 fun r w'=>∃ t2 p2,aa w0 w' t2 (dm Ma.e Ma.s Ma.D Ma.rs Ma.up).2 p2∧p2.b=pa.b∧W1.heap.size≤t2∧ae (DF pa.P pa.b) p2.F W1 w' ∧
  ((dm Ma.e Ma.s Ma.D Ma.rs Ma.up).1=0→r=.returned (.tuple #[.pointer (some ⟨t2,0,.none⟩),.nilIface]))∧((dm Ma.e Ma.s Ma.D Ma.rs Ma.up).1≠0→r=.returned (.tuple #[.pointer .none,ai (dm Ma.e Ma.s Ma.D Ma.rs Ma.up).1]))) :=
  tnew_any HT.kk.d HSI.out.ck.up Ma.e Ma.s HSI.out.f HSI.out.e1 HSI.out.e9 HSI.out.ck.now HL0.out HT.bw (fun q f=>HT.above q (by show pa.col q≠0;rw [HT.cK q (.inl f)];decide)) HT.ok
 clear HT
 go_wp2_with fail
 refine HNW.out.mono ?_
 rintro r W2 ⟨t2,p2,hT2,hb2,ht2,hm2,hr0,hr1⟩
 by_cases h0:(dm Ma.e Ma.s Ma.D Ma.rs Ma.up).1=0
 ·obtain rfl:=hr0 h0
  have HOLD:Hid (At W2 t (pa.tv Ma) 107):=hm2.at HTa.out.hd (fun f=>by have e:=HTa.out.cK t (.inl f);rw [HTa.out.cT] at e;cases e)
  have HQ:Hid (aa w0 W2 t2 (dm Ma.e Ma.s Ma.D Ma.rs Ma.up).2 p2∧p2.b=pa.b∧ae pa.F p2.F wa W2∧wa.heap.size≤t2) :=
   ⟨hT2,hb2,HMa.out.trans (hm2.mono (fun q f=>by show pa.col q≠0;rw [HTa.out.cK q (.inl f)];decide) (fun q f=>.inr (.inl f))),Nat.le_trans HMa.out.size ht2⟩
  have HP:Hid (gy Ma x=(true,(dm Ma.e Ma.s Ma.D Ma.rs Ma.up).2)):=HPT.out h0
  clear hT2 hb2 ht2 hm2 hr0 hr1 h0 HTa HMa HNW HPT HPF HNF HSI HL0
  go_wp2
  go_ret
  rw [HP.out]
  exact ⟨t2,p2,rfl,HQ.out.1,HQ.out.2.1,HQ.out.2.2.1,.inr ⟨rfl,HQ.out.2.2.2,_,HOLD.out⟩⟩
 ·obtain rfl:=hr1 h0
  have hd2:DAt W2 pa.b 10 Ma.D p2.P:=by have:=hT2.kk.d;rw [hb2,HNF.out h0] at this;exact this
  obtain ⟨p3,h31,h32,h33⟩:=HTa.out.redisk hm2 (fun q f=>by show p2.col q≠0;rw [hT2.cK q (.inl (by rw [hb2];exact f))];decide) hd2
  have HQ:Hid (aa w0 W2 t Ma p3∧p3.b=pa.b∧ae pa.F p3.F wa W2):=⟨h31,h32,HMa.out.trans h33⟩
  have HP:Hid (gy Ma x=(false,Ma)):=HPF.out h0
  have HE:Hid (ai (dm Ma.e Ma.s Ma.D Ma.rs Ma.up).1=.iface 96 (.int .i64 (dm Ma.e Ma.s Ma.D Ma.rs Ma.up).1)):=ut h0
  rw [HE.out]
  generalize (dm Ma.e Ma.s Ma.D Ma.rs Ma.up).1=f at *
  clear hT2 hb2 ht2 hm2 hr0 hr1 HTa HMa HNW HPT HPF HNF HSI HL0 hd2 h31 h32 h33 HE
  go_wp2
  go_ret
  rw [HP.out]
  exact .same HQ.out.1 HQ.out.2.1 HQ.out.2.2
def gp (M:TM) (l:List ig):TM:=l.foldl (fun M x=>(gy M x).2) M
theorem playL_succ (M:TM) (l:List ig) (k:Nat) (h:k<l.length):gp M (l.take (k+1))=(gy (gp M (l.take k)) l[k]).2:=by
 unfold gp
 rw [List.take_succ_eq_append_getElem h,List.foldl_append];rfl
def jq (l:List ig):Prop:=∀ x ∈ l,(Lit.int .i64 x.op).wf=true
structure After (w w':World) (l:List ig) (t:Nat) (p:TP) (D:DM):Prop where
 tg:aa w w' t (gp (dh D) l) p
 si:SI (gp (dh D) l)
 ti:TI (gp (dh D) l) l.length
 s0:SI (dh D)
theorem aa5 (w:World) (hL:K.Laid w) (a:Option Addr) (n c:Nat) (l:List ig) (h:jh w a n l) (hop:jq l) :
 Calls Tryz.prog 16 #[.slice a n c] w fun r w'=>Below w.heap.size w w' ∧
  ((om l 80=false∧r=.returned (.tuple #[.pointer .none,.pointer .none,.bool false])) ∨
   (om l 80=true∧∃ t p D,r=.returned (.tuple #[.pointer (some ⟨p.b,0,.none⟩),.pointer (some ⟨t,0,.none⟩),.bool true])∧After w w' l t p D)):=by
 obtain rfl:=h.len
 have HL:Hid (K.Laid w):=hL
 have HA:Hid (jh w a l.length l∧jq l):=⟨h,hop⟩
 clear h hop hL
 go_enter Tryz.func16,Tryz.ntmps16
 go_wp2_with fail
 refine (ads a l.length c l 80 w HA.out.1).mono ?_
 rintro r W1 ⟨rfl,bw⟩
 cases hl:om l 80 with
 | false =>
   have HLT:Hid (om l 80=false):=hl
   clear hl
   go_wp2
   exact bodyPost_ret (ret_ttt Tryz.results16) rfl ⟨bw,.inl ⟨HLT.out,rfl⟩⟩
 | true =>
   have HLT:Hid (om l 80=true):=hl
   have hn:l.length≤80:=by simp [om] at hl;omega
   clear hl
   have HL1:K.Laid W1:=HL.out.later bw
   go_wp2_with fail
   refine (ada W1 HL1).mono ?_
   rintro r W2 ⟨t,p,D,rfl,hT,hS⟩
   have hT0:aa w W2 t (dh D) p:=⟨hT.hd,hT.ok,hT.kk,hT.fl,hT.dl,hT.mp,hT.bx,hT.cK,hT.cT,hT.cF,hT.cD,hT.cM,hT.cB,fun q hq=>⟨Nat.le_trans bw.size (hT.cN q hq).1,(hT.cN q hq).2⟩,bw.trans (hT.bw.mono bw.size)⟩
   have HS0:Hid (SI (dh D)):=hS
   have HT0:Hid (aa w W2 t (dh D) p):=hT0
   obtain ⟨b,hb⟩:∃ b,p.b=b:=⟨_,rfl⟩
   have HB:Hid (p.b=b):=hb
   rw [hb]
   clear hT hT0 hS bw hb HL1
   go_wp2_with fail
   go_loopw [6,8] (fun tv i wr=>∃ (k t:Nat) (p:TP),k≤l.length∧tv=.pointer (some ⟨t,0,.none⟩)∧i=.int .i64 k∧aa w wr t (gp (dh D) (l.take k)) p∧SI (gp (dh D) (l.take k))∧TI (gp (dh D) (l.take k)) k∧p.b=b) (fun _ i _=>l.length - (intOf i).toNat)
   case atStart=>exact ⟨0,t,p,Nat.zero_le _,rfl,rfl,HT0.out,HS0.out,openTI D,HB.out⟩
   case round =>
    clear HT0 HB p
    obtain ⟨k,t,p,hk,rfl,rfl,hT,hS,hI,hb⟩:=hrel
    by_cases hlt:k<l.length
    ·have hki:(k:Int)<(l.length:Int):=by omega
     obtain ⟨b0,off,rfl,hrow⟩:=HA.out.1.row (by omega)
     have hrk:=zq (hrow k hlt) hT.bw
     have hmem:=List.getElem_mem hlt
     have hxo:=HA.out.1.ok l[k] hmem
     have hxw:=HA.out.2 l[k] hmem
     have HNX:Hid (gp (dh D) (l.take (k+1))=(gy (gp (dh D) (l.take k)) l[k]).2):=playL_succ _ _ _ hlt
     obtain ⟨M',hM'⟩:∃ M',gp (dh D) (l.take (k+1))=M':=⟨_,rfl⟩
     rw [hM'] at HNX
     have HM':Hid (gp (dh D) (l.take (k+1))=M'):=hM'
     clear hM'
     generalize gp (dh D) (l.take k)=M at *
     generalize l[k]=x at *
     have HLa:Hid ((Instr.loadAt 62 (.pointer (some ⟨b0,off+k*19,.none⟩))).run Tryz.prog wr=.ok (.agg x.vs.toArray) wr):=G.load_act hrk
     have HP:Hid (Calls Tryz.prog 28 #[.pointer (some ⟨b,0,.none⟩),.pointer (some ⟨t,0,.none⟩),.agg x.vs.toArray] wr fun r w'=>Played w wr w' t p (gy M x) r):=by
      have:=play_any hT HL.out hI (by omega) hS x hxw hxo.daz hxo.waz
      rw [hb] at this
      exact this
     have HSI:Hid (SI M'∧TI M' (k+1)):=⟨by rw [HNX.out];exact hS.play hT.ok x,by rw [HNX.out];exact hI.play (hT.mp.tidy x9) x⟩
     have HB:Hid (p.b=b):=hb
     clear hrow hmem hxo hxw hrk hT hS hI hb
     go_wp2_with (with_reducible refine ak HLa.out rfl rfl ?_)
     refine HP.out.mono ?_
     rintro r W ⟨t',p',rfl,hT,hb,_,_⟩
     rw [←HNX.out] at hT
     have HQ:Hid (aa w W t' M' p'∧p'.b=b):=⟨hT,hb.trans HB.out⟩
     clear hT hb HP HLa
     go_wp2_with fail
     exact ⟨⟨k+1,t',p',by omega,rfl,by go_num,by rw [HM'.out];exact HQ.out.1,by rw [HM'.out];exact HSI.out.1,by rw [HM'.out];exact HSI.out.2,HQ.out.2⟩,by simp [intOf];omega⟩
    ·have hkl:k=l.length:=by omega
     subst hkl
     have hki:¬((l.length:Int)<(l.length:Int)):=by omega
     rw [List.take_length] at hT hS hI
     have HQ:Hid (After w wr l t p D):=⟨hT,hS,hI,HS0.out⟩
     have HQB:Hid (p.b=b):=hb
     clear hT hS hI hb
     go_wp2_with fail
     refine bodyPost_ret (ret_ttt Tryz.results16) rfl ⟨HQ.out.tg.bw,.inr ⟨HLT.out,?_⟩⟩
     refine ⟨t,?_⟩
     refine ⟨p,?_⟩
     refine ⟨?_,D,HQ.out⟩
     rw [HQB.out];rfl
def LessS (s s':KS):Prop:=xk s.t s.hd s.l s'.t s'.hd s'.l
instance (s s':KS):Decidable (LessS s s'):=by unfold LessS;infer_instance
theorem less_irrefl (s:KS):¬LessS s s:=by
 rintro ⟨k,_,h⟩
 unfold wm at h
 simp at h
structure Ep (M M':TM) (pw:Prop):Prop where
 up:M.e≤M'.e
 less:LessS M.s M'.s→M'.e≠M.e
 rise:M.e<M'.e→LessS M.s M'.s∨pw
theorem Ep.same {M M':TM} {pw:Prop} (he:M'.e=M.e) (hs:M'.s=M.s):Ep M M' pw:=⟨by omega,fun h=>by rw [hs] at h;exact absurd h (less_irrefl _),fun h=>by omega⟩
theorem Ep.begin {M:TM} (h:SI M) (ok:G.GOK M.rs M.up) {s:KS} (hs:s.f=0) {pw:Prop} (hl:LessS M.s s∨pw):Ep M (gq M s).2 pw:=by
 rcases yx h ok hs with ⟨_,e⟩|⟨_,_,e⟩|⟨_,_,D',e,h2⟩
 ·rw [e];exact .same rfl rfl
 ·rw [e];exact .same (aae M).1 (aae M).2.1
 ·rw [e]
  exact ⟨by show M.e≤M.e+1;omega,fun _=>by show ¬M.e+1=M.e;omega,fun _=>hl⟩
theorem Ep.change {M:TM} (h:SI M) (ok:G.GOK M.rs M.up) {c:CmD} (hc:c.f=0) (pw:Prop):Ep M (lu M c).2 pw:=by
 unfold lu
 split
 ·rename_i h0
  have hs:=h.out hc h0
  have h1:Ep M (ol M (c.o M.s)).2 pw:=by
   unfold ol
   split
   ·rename_i hl
    exact Ep.begin h ok hs (.inl hl)
   ·rename_i hl
    have hk:=h.keep ⟨h.e1,h.e9⟩ hs
    refine ⟨by rw [hk.2.1];omega,fun hh=>absurd ?_ hl,fun hh=>by rw [hk.2.1] at hh;omega⟩
    rw [hk.2.2.1] at hh
    exact hh
  split
  ·exact ⟨h1.up,h1.less,h1.rise⟩
  ·exact h1
 ·exact .same rfl rfl
theorem allowM_is (M:TM) (c:CmD):(ic M c).e=M.e∧(ic M c).s=M.s:=by
 unfold ic;split
 ·exact ⟨(aae M).1,(aae M).2.1⟩
 ·exact ⟨rfl,rfl⟩
theorem readM_is (M:TM) (c:CmD):(j4 M c).2.2.e=M.e∧(j4 M c).2.2.s=M.s:=by
 have:=allowM_is M c
 unfold j4;repeat' split
 all_goals exact this
theorem acy (M:TM) (c:CmD):(qb M c).2.2.e=M.e∧(qb M c).2.2.s=M.s:=by
 have:=allowM_is M c
 unfold qb qp;repeat' split
 all_goals exact this
theorem ac1 (M:TM) (c:CmD):(jg M c).2.2.e=M.e∧(jg M c).2.2.s=M.s:=by
 have:=allowM_is M c
 unfold jg zt;repeat' split
 all_goals exact this
theorem Ep.ask {M:TM} (h:SI M) (ok:G.GOK M.rs M.up) (c:CmD) (pw:Prop):Ep M (av M c).2 pw:=by
 unfold av
 split
 ·rename_i hc
  split
  ·unfold kr
   split
   ·exact .same (readM_is _ c).1 (readM_is _ c).2
   ·split
    ·exact .same (acy _ c).1 (acy _ c).2
    ·split
     ·exact .same (ac1 _ c).1 (ac1 _ c).2
     ·have h1:SI (iw M c):=h.with rfl rfl rfl
      have:=Ep.change h1 ok hc pw
      exact ⟨this.up,this.less,this.rise⟩
  ·exact .same rfl rfl
 ·exact .same rfl rfl
theorem adt (M:TM) (i:Int) (st:Bool):(l7 M i st).2.2.e=M.e∧(l7 M i st).2.2.s=M.s:=by
 unfold l7 qw q8 ww;repeat' split
 all_goals exact ⟨rfl,rfl⟩
theorem loseM_is (M:TM) (i:Int):(ug M i).2.e=M.e∧(ug M i).2.s=M.s:=by
 unfold ug ww;split <;> exact ⟨rfl,rfl⟩
theorem upM_is (M:TM) (i:Int) (b:Bool):(upM M i b).2.e=M.e∧(upM M i b).2.s=M.s:=by
 unfold upM;split <;> exact ⟨rfl,rfl⟩
theorem syncM_is (M:TM) (i:Int):(qg M i).2.e=M.e∧(qg M i).2.s=M.s:=by
 unfold qg;repeat' split
 all_goals exact ⟨rfl,rfl⟩
def isPower (x:ig):Bool:=x.kind.toList == [112,111,119,101,114]
theorem Ep.play {M:TM} (h:SI M) (ok:G.GOK M.rs M.up) (x:ig):((gy M x).1=true→M.e<(gy M x).2.e)∧((gy M x).1=false→Ep M (gy M x).2 (isPower x=true)):=by
 unfold gy
 split
 ·exact ⟨fun e=>(by cases e),fun _=>Ep.ask h ok _ _⟩
 split
 ·exact ⟨fun e=>(by cases e),fun _=>Ep.same (adt _ _ _).1 (adt _ _ _).2⟩
 split
 ·exact ⟨fun e=>(by cases e),fun _=>Ep.same (loseM_is _ _).1 (loseM_is _ _).2⟩
 split
 ·exact ⟨fun e=>(by cases e),fun _=>Ep.same (upM_is _ _ _).1 (upM_is _ _ _).2⟩
 split
 ·exact ⟨fun e=>(by cases e),fun _=>Ep.same (upM_is _ _ _).1 (upM_is _ _ _).2⟩
 split
 ·exact ⟨fun e=>(by cases e),fun _=>Ep.same (syncM_is _ _).1 (syncM_is _ _).2⟩
 split
 ·rename_i hp
  refine ⟨fun e=>(by cases e),fun _=>?_⟩
  have h1:=Ep.begin h ok (pow_ok h.f) (pw:=isPower x=true) (.inr hp)
  unfold iq
  split
  ·exact ⟨h1.up,h1.less,h1.rise⟩
  ·exact h1
 split
 ·rename_i h0
  refine ⟨fun _=>?_,fun e=>by cases e⟩
  rcases yx (M:=qx M.e M.s M.D M.rs M.up) h.new0 ok (show M.s.f=0 from h.f) with ⟨_,e⟩|⟨_,_,e⟩|⟨_,_,D',e,h2⟩
  ·unfold dm at h0;rw [e] at h0;exact absurd h0 (by simp)
  ·unfold dm at h0;rw [e] at h0;exact absurd h0 (by simp)
  ·unfold dm;rw [e];show M.e<M.e+1;omega
 ·exact ⟨fun e=>(by cases e),fun _=>Ep.same rfl rfl⟩
section
variable {H:Type} {enc:TypeId × Value→H}
theorem act_op {W:World} {fuel:Nat} {y:ig} {x:DataW H × List MemPlace} (h:DataW.trod enc Tryz.prog W 0 (fun _=>true) true fuel 62 y.vs=some x):(Lit.int .i64 y.op).wf=true:=by
 obtain ⟨xs,m,_,_,hcl,hlen,hfld⟩:=DataW.trod_struct Tryz.underlying62 h
 rw [Tryz.cellsActA] at hcl
 match xs,hlen with
 | [x0,x1,x2,x3,x4,x5,x6],_ =>
   have f6:=hfld 6 _ rfl
   simp [Tryz.cellsCommandA,ig.vs] at f6
   obtain ⟨zs,m6,_,_,_,hlen6,hfld6⟩:=DataW.trod_struct Tryz.underlying24 f6
   match zs,hlen6 with
   | [z0',z1',z2',z3',z4',z5',z6',z7',z8'],_ =>
     have k0:=hfld6 0 _ rfl
     simp [Tryz.cellsIntA] at k0
     obtain ⟨op,e10,_,w⟩:=DataW.trod_int Tryz.underlying3 k0
     simp only [List.cons.injEq,and_true,Value.int.injEq,true_and] at e10
     rw [e10];exact w
theorem aad {W:World} {a:Option Addr} {n c:Nat} {l:List ig} {d:DataW H} {ps:List MemPlace} (h:DataW.Trod enc Tryz.prog W 0 (fun _=>true) true 22 (.slice a n c) d ps) (ha:jh W a n l):jq l:=by
 obtain ⟨fuel,hf⟩:=h
 intro x hx
 obtain ⟨i,hi,rfl⟩:=List.mem_iff_getElem.1 hx
 have hn:n≠0:=by rw [←ha.len];omega
 obtain ⟨b,off,rfl,hrow⟩:=ha.row hn
 rcases open_slice Tryz.underlying22 hf with ⟨e,_⟩|⟨a',len,cap,m,k,D,Pl,e,_,hl,hm,hmm,_,hy⟩
 ·simp [Value.cells] at e
 ·simp [Value.cells] at e
  obtain ⟨rfl,rfl,rfl⟩:=e
  have hin:i<n:=by rw [←ha.len];exact hi
  have hlm:n≤m:=by rw [hmm];simpa using hl
  obtain ⟨cs',h1,h2⟩:=hy i (by omega)
  rw [Tryz.cellsActA] at h1
  obtain ⟨_,hlen,hcell⟩:=World.cells?_some h1
  have he:cs'=l[i].vs:=by
   refine List.ext_getElem (by rw [hlen];rfl) fun j hj1 hj2=>?_
   have hj:j<19:=by rw [hlen] at hj1;exact hj1
   have g1:=hcell j hj
   have g2:=hrow i hi j _ (List.getElem?_eq_getElem hj2)
   rw [add_add,adg] at g1
   rw [Nat.add_assoc,g1,List.getElem?_eq_getElem hj1] at g2
   exact Option.some.inj g2
  rw [he] at h2
  exact act_op h2
end
end Go.Proofs.YtpkhdihoijkamaaGreatDoor.U
