/- Several texts of this seat in one: EParse, DTop, EStore, EKeep, EKp, EMath, GAct, GLight, EAct. No statement of the seat is proved here. -/
import Derived.Test.YtpkhdihoijkamaaGreatDoorWT
import Derived.Test.YtpkhdihoijkamaaGreatDoorZA11
import Derived.Test.YtpkhdihoijkamaaGreatDoorZA05
import Derived.Test.YtpkhdihoijkamaaGreatDoorRows
import Derived.WalkKit
import Derived.WalkSpells
import Derived.WalkLawsBesides
import Derived.ProofKit
import Derived.OpenShut
import Derived.ChangeOld
import Derived.Deep.SlicePairs
import Derived.Deep.Fields
import Derived.Deep.QuietTactic
import Derived.BigQuiet
import Derived.Deep.MidRow
import Derived.Laws.Small
set_option maxHeartbeats 8000000
set_option maxRecDepth 100000
namespace Go.Proofs.YtpkhdihoijkamaaGreatDoor.D
open Go.ChangeShapes Go.WideShapes Go.ChangeAt Go.RowKit Go.Deep
theorem isEpoch_any (n:Int) (w:World):Calls Tryz.prog 125 #[.int .i64 n] w fun r w'=>r=.returned (.bool (decide (1≤n) && decide (n≤1000000)))∧w'=w:=by
 by_cases h:1≤n
 ·have h':decide (1≤n)=true:=by simpa using h
  have HF:Hid ((decide (1≤n) && decide (n≤1000000))=decide (n≤1000000)):=by show _=_;rw [h'];rfl
  go_enter Tryz.func125,Tryz.ntmps125
  go_wp2
  go_ret
  exact ⟨by rw [HF.out];rfl,rfl⟩
 ·have h':decide (1≤n)=false:=by simpa using h
  go_enter Tryz.func125,Tryz.ntmps125
  go_wp2
  go_ret
  exact ⟨rfl,rfl⟩
theorem cut_ktxt (e:Int) (s:KS):Lib.cut (K.eu e ++ 32 :: K.je s.g s.t s.hd s.y s.l) [32]=(K.eu e,K.je s.g s.t s.hd s.y s.l,true):=by
 rw [Go.Proofs.YtpkhdihoijkamaaGreatDoor.cut_eq]
 exact Go.Proofs.YtpkhdihoijkamaaGreatDoor.adc _ _ (K.dec_noblank e)
theorem ret_tct {P:Program} {fn:Func} {q r t:Tmp} {T:TypeId} {tmps:Array Value} {w:World} {b:Nat} {v:Value} (h:fn.results=#[.tmp q,.cell r T,.tmp t]) (hr:tmps.getD r undef=.pointer (some ⟨b,0,.none⟩))
 (law:(Instr.loadAt T (.pointer (some ⟨b,0,.none⟩))).run P w=.ok v w):(results fn tmps).run P w=.ok (.tuple #[tmps.getD q undef,v,tmps.getD t undef]) w:=by
 have law':(loadVar T ⟨b,0,.none⟩).run P w=.ok v w:=by simpa [Instr.loadAt,Instr.sureAddr,Sem.run_bind] using law
 simp only [Array.getD_eq_getD_getElem?] at hr
 simp [results,h,hr,asAddr,law']
theorem newS (s:KS) (a:Option Addr) (c:Nat) (W:World):∃ V,(Instr.storeAt 36 (.pointer (some ⟨W.heap.size,0,.none⟩)) (.agg (s.vs a c).toArray)).run Tryz.prog (W.alloc (.cells #[.int .i64 0,.slice .none 0 0,.int .i64 0,.int .i64 0,.bool false] 36))=.ok () V∧At V W.heap.size (s.vs a c) 36∧Below W.heap.size W V:=by
 have A1:At (W.alloc (.cells #[.int .i64 0,.slice .none 0 0,.int .i64 0,.int .i64 0,.bool false] 36)) W.heap.size [.int .i64 0,.slice .none 0 0,.int .i64 0,.int .i64 0,.bool false] 36:=heap_alloc_new W _
 have B2:=At.set (s.vs a c) 0 _ _ A1
 rw [ik _ _ (by simp [KS.vs])] at B2
 exact ⟨_,adh (o:=0) s a c A1 (by simp),B2,below_setCells (Nat.le_refl _) _ 0 _ ((Below.refl _ _).alloc (Nat.le_refl _) _)⟩
theorem putS {W:World} {b:Nat} {T:TypeId} {l:List Value} (s:KS) (a:Option Addr) (c:Nat) (A:At W b l T) (hl:l.length=5):∃ V,(Instr.storeAt 36 (.pointer (some ⟨b,0,.none⟩)) (.agg (s.vs a c).toArray)).run Tryz.prog W=.ok () V∧At V b (s.vs a c) T∧ae (Is b) (Is b) W V:=by
 have B2:=At.set (s.vs a c) 0 _ _ A
 rw [ik _ _ (by simp [KS.vs,hl])] at B2
 exact ⟨_,adh (o:=0) s a c A (by omega),B2,ae.sets (show Is b b from rfl) _ _ _ (ae.refl _ _)⟩
def zst:List Value:=[.int .i64 0,.slice .none 0 0,.int .i64 0,.int .i64 0,.bool false]
theorem kparse_ok (e:Int) (h0:1≤e) (h1:e≤1000000) (s:KS) (hs:s.f=0) (w:World) (hL:K.Laid w) :
 Calls Tryz.prog 110 #[.string ⟨(df e s).toArray⟩] w fun r w'=>∃ a c,r=.returned (.tuple #[.int .i64 e,.agg (s.vs a c).toArray,.nilIface])∧Go.Proofs.YtpkhdihoijkamaaGreatDoor.Row w' a s.l.length s.l∧(∀ p,a=some p→w.heap.size≤p.block∧(s.l.length≠0→p.block<w'.heap.size))∧Below w.heap.size w w':=by
 obtain ⟨X,hX,a0,bX,sX⟩:=one w (.cells #[.int .i64 0,.slice .none 0 0,.int .i64 0,.int .i64 0,.bool false] 36)
 have A0:At X w.heap.size zst 36:=a0
 have HLd:Hid (K.Laid X):=hL.later bX
 have HB:Hid (Below w.heap.size w X):=bX
 have HS:Hid (s.f=0):=hs
 have hln:=abe h1 hs
 have HTP:Hid (∀ W,Calls Tryz.prog 138 #[.string ⟨(df e s).toArray⟩,.string ⟨#[107,101,101,112,101,114,32]⟩] W fun r w'=>r=.returned (.string ⟨(K.eu e ++ 32 :: K.je s.g s.t s.hd s.y s.l).toArray⟩)∧w'=W):=fun W=>trimPre_any _ (by unfold df at hln;simp [kpre] at hln;simp;omega) W
 obtain ⟨t,ht⟩:∃ t:ByteArray,(⟨(df e s).toArray⟩:ByteArray)=t:=⟨_,rfl⟩
 have HT:Hid ((⟨(df e s).toArray⟩:ByteArray)=t):=ht
 rw [ht] at HTP ⊢
 have hlr:(K.eu e ++ 32 :: K.je s.g s.t s.hd s.y s.l).length≤1000000:=by unfold df at hln;simp [kpre] at hln;simp;omega
 have hls:(K.je s.g s.t s.hd s.y s.l).length≤1000000:=by unfold df at hln;simp [kpre] at hln;omega
 have HCT:Hid (∀ W,K.Laid W→Calls Tryz.prog 137 #[.string ⟨(K.eu e ++ 32 :: K.je s.g s.t s.hd s.y s.l).toArray⟩,.string ⟨#[32]⟩] W fun r w'=>r=.returned (.tuple #[.string (K.mh e),.string ⟨(K.je s.g s.t s.hd s.y s.l).toArray⟩,.bool true])∧Below W.heap.size W w'):=fun W hW=>by
  refine (K.cut_call (K.eu e ++ 32 :: K.je s.g s.t s.hd s.y s.l) 32 W hW hlr).mono ?_
  rintro r w' ⟨rfl,n,rfl⟩
  rw [cut_ktxt]
  exact ⟨rfl,K.aaz (Below.refl _ _) n⟩
 have HNU:Hid (∀ W,K.Laid W→Calls Tryz.prog 139 #[.string (K.mh e)] W fun r w'=>r=.returned (.int .i64 e)∧Below W.heap.size W w'):=fun W hW=>by
  have:=K.aag (K.mh e) (by have:=dsz e (by omega);omega) W hW
  rw [show K.numOf (K.mh e)=e from K.abg (by omega) (by omega)] at this
  exact this
 have HPA:Hid (∀ W,K.Laid W→Calls Tryz.prog 140 #[.string ⟨(K.je s.g s.t s.hd s.y s.l).toArray⟩] W fun r w'=>∃ a c,r=.returned (.tuple #[.agg (s.vs a c).toArray,.nilIface])∧Go.Proofs.YtpkhdihoijkamaaGreatDoor.Row w' a s.l.length s.l∧(∀ p,a=some p→W.heap.size≤p.block)∧Below W.heap.size W w'):=fun W hW=>by
  obtain ⟨g0,g1,g2,g3,g4⟩:=K.st_back s.y (KS.sok HS.out)
  refine (K.rparse_new (K.je s.g s.t s.hd s.y s.l) W hW hls s.g s.t s.hd s.y s.l g0 g1 g2 g3 g4).mono ?_
  rintro r w' ⟨h,hb⟩
  rcases h with ⟨a,c,_,rfl,hr,hn⟩|⟨hno,_⟩
  ·exact ⟨a,c,rfl,hr,hn,hb⟩
  ·exact absurd ⟨HS.out,rfl⟩ hno
 clear a0 bX hL hs hln ht hlr hls
 go_enter Tryz.func110,Tryz.ntmps110
 go_upto_region 1 with fail
 rw [←hX]
 clear hX
 go_wp2_with fail
 refine (HTP.out _).mono ?_
 rintro r W0 ⟨rfl,rfl⟩
 go_wp2_with fail
 refine (HCT.out _ HLd.out).mono ?_
 rintro r W1 ⟨rfl,b1⟩
 replace A0:=A0.later b1 A0.lt
 replace HLd:Hid (K.Laid W1):=HLd.out.later b1
 replace HB:Hid (Below w.heap.size w W1):=HB.out.trans (b1.mono HB.out.size)
 clear b1 HCT HTP
 go_wp2_with fail
 refine (HNU.out _ HLd.out).mono ?_
 rintro r W2 ⟨rfl,b1⟩
 replace A0:=A0.later b1 A0.lt
 replace HLd:Hid (K.Laid W2):=HLd.out.later b1
 replace HB:Hid (Below w.heap.size w W2):=HB.out.trans (b1.mono HB.out.size)
 clear b1 HNU
 go_wp2_with fail
 refine (HPA.out _ HLd.out).mono ?_
 rintro r W3 ⟨a,c,rfl,hr,hn,b1⟩
 have h02:=A0.lt
 have HN2:Hid (∀ p,a=some p→w.heap.size<p.block):=fun p hp=>by have:=hn p hp;omega
 replace A0:=A0.later b1 A0.lt
 replace HLd:Hid (K.Laid W3):=HLd.out.later b1
 replace HB:Hid (Below w.heap.size w W3):=HB.out.trans (b1.mono HB.out.size)
 clear b1 HPA hn h02
 obtain ⟨V,hst,A9,bV⟩:=newS s a c W3
 have HST:Hid ((Instr.storeAt 36 (.pointer (some ⟨W3.heap.size,0,.none⟩)) (.agg (s.vs a c).toArray)).run Tryz.prog (W3.alloc (.cells #[.int .i64 0,.slice .none 0 0,.int .i64 0,.int .i64 0,.bool false] 36))=.ok () V):=hst
 have h39:=A0.lt
 replace A0:=A0.later bV A0.lt
 replace HLd:Hid (K.Laid V):=HLd.out.later bV
 replace HB:Hid (Below w.heap.size w V):=HB.out.trans (bV.mono HB.out.size)
 replace hr:=hr.later bV
 clear hst bV
 have HIE:Hid (∀ W,Calls Tryz.prog 125 #[.int .i64 e] W fun r w'=>r=.returned (.bool true)∧w'=W):=fun W=>by
  have:=isEpoch_any e W
  rw [show (decide (1≤e) && decide (e≤1000000))=true from by simp;omega] at this
  exact this
 go_wp2_with (with_reducible refine cu HST.out rfl rfl ?_)
 obtain ⟨b9,hb9⟩:∃ b9,W3.heap.size=b9:=⟨_,rfl⟩
 rw [hb9] at A9 h39 ⊢
 clear HST hb9
 refine (HIE.out _).mono ?_
 rintro r V0 ⟨rfl,rfl⟩
 have HL9:Hid ((Instr.loadAt 36 (.pointer (some ⟨b9,0,.none⟩))).run Tryz.prog V0=.ok (.agg (s.vs a c).toArray) V0):=jk A9
 go_wp2_with (with_reducible refine ak HL9.out rfl rfl ?_)
 refine (ktext_any e (by omega) h1 s HS.out a c V0 HLd.out hr).mono ?_
 rintro r V1 ⟨rfl,b1⟩
 rw [HT.out]
 replace A0:=A0.later b1 A0.lt
 replace A9:=A9.later b1 A9.lt
 replace HB:Hid (Below w.heap.size w V1):=HB.out.trans (b1.mono HB.out.size)
 replace hr:=hr.later b1
 clear b1 HL9 HIE HLd
 go_upto_region 6 with fail
 refine wp_region_held (S:=fun w'=>At w' b9 (s.vs a c) 36) (by kernel_rfl) ?_
 have HSS:Hid (At V1.drew b9 (s.vs a c) 36):=A9
 replace A0:At V1.drew w.heap.size zst 36:=A0
 have hr5:Go.Proofs.YtpkhdihoijkamaaGreatDoor.Row V1.drew a s.l.length s.l:=hr
 replace HB:Hid (Below w.heap.size w V1.drew):=HB.out.drew
 clear A9 hr
 refine wpG 0 (.int .i64 e) HSS.out ?_
 refine wpT 1 (.agg (s.vs a c).toArray) (.inl ⟨rfl,fun w' hw'=>?_⟩) HSS.out ?_
 ·exact jc (jk hw') rfl
 (try simp [Act.put])
 refine wpG 2 (.int .i64 e) HSS.out ?_
 (try simp [Act.put])
 obtain ⟨V3,hst,A3,hm3⟩:=putS s a c A0 rfl
 have HS3:Hid (At V3 b9 (s.vs a c) 36):=hm3.at HSS.out (fun e=>by have:b9=w.heap.size:=e;omega)
 have HR3:Hid (Go.Proofs.YtpkhdihoijkamaaGreatDoor.Row V3 a s.l.length s.l):=xc hr5 hm3 (fun p hp _ e=>by have:=HN2.out p hp;have:p.block=w.heap.size:=e;omega)
 have HB3:Hid (Below w.heap.size w V3):=hm3.below HB.out (fun q hq=>by rw [show q=w.heap.size from hq];exact Nat.le_refl _) HB.out.size
 have HRS:Hid ((Instr.loadAt 36 (.pointer (some ⟨w.heap.size,0,.none⟩))).run Tryz.prog V3=.ok (.agg (s.vs a c).toArray) V3):=jk A3
 clear hm3 A3 hr5 A0 HB
 refine wpA 3 ?_
 refine ma hst rfl rfl rfl rfl ⟨HS3.out,?_⟩
 (try simp [Act.put])
 refine wpG 4 (.nilIface) HS3.out ?_
 (try simp [Act.put])
 refine wpZ ?_
 (try simp [Act.put])
 clear hst HS3 HSS
 go_wp2_with fail
 refine bodyPost_ret (ret_tct Tryz.results110 rfl HRS.out) rfl ⟨a,c,rfl,HR3.out,?_,HB3.out⟩
 exact fun p hp=>⟨Nat.le_of_lt (HN2.out p hp),fun hn0=>yo HR3.out hn0 p hp⟩
structure Calm (D:DM):Prop where
 a:D.armed=false
 d:D.down=false
theorem Calm.qj {D:DM} (h:Calm D):qj D=false:=by simp [Proofs.YtpkhdihoijkamaaGreatDoor.D.qj,h.a,h.d]
theorem Calm.jo {D:DM} (h:Calm D):jo D=0:=by simp [Proofs.YtpkhdihoijkamaaGreatDoor.D.jo,h.qj]
theorem Calm.az {D:DM} (h:Calm D):az D=D:=by simp [Proofs.YtpkhdihoijkamaaGreatDoor.D.az,h.a,h.d]
theorem Calm.new (n:Nat):Calm (lq n):=⟨rfl,rfl⟩
theorem Calm.put {D:DM} (h:Calm D) (k:Nat) (s:List UInt8):Calm (putD D k s):=⟨h.a,h.d⟩
theorem Calm.pz {D:DM} (h:Calm D) (n:Nat) (at':Int) (s:List UInt8):pz D n at' s=if hasD n at'=true∧s.length≤64 then 0 else 1:=by simp only [Proofs.YtpkhdihoijkamaaGreatDoor.D.pz,h.jo]
theorem Calm.qd {D:DM} (h:Calm D) (n:Nat) (at':Int) (s:List UInt8):qd D n at' s=if hasD n at'=true∧s.length≤64 then putD D at'.toNat s else D:=by simp [Proofs.YtpkhdihoijkamaaGreatDoor.D.qd,h.qj,h.az]
theorem Calm.write {D:DM} (h:Calm D) (n:Nat) (at':Int) (s:List UInt8):Calm (Proofs.YtpkhdihoijkamaaGreatDoor.D.qd D n at' s):=by
 rw [h.qd];split
 ·exact h.put _ _
 ·exact h
theorem Calm.flush {D:DM} (h:Calm D) (n:Nat):xu D n=setD { D with kept:=D.now } n:=by simp [xu,h.qj,h.az]
theorem Calm.flushed {D:DM} (h:Calm D) (n:Nat):Calm (xu D n):=by rw [h.flush];exact ⟨h.a,h.d⟩
def qc (D:DM) (n:Nat) (x:List UInt8):Int:=if pz D n 0 x=0 then jo (qd D n 0 x) else pz D n 0 x
def lw (D:DM) (n:Nat) (x:List UInt8):DM:=if pz D n 0 x=0 then xu (qd D n 0 x) n else qd D n 0 x
theorem store_any {w:World} {b n:Nat} {D:DM} {P:DP} (h:DAt w b n D P) (e:Int) (h0:0≤e) (h1:e≤1000000) (s:KS) (hs:s.f=0) (a:Option Addr) (c:Nat) (hL:K.Laid w) (hr:Go.Proofs.YtpkhdihoijkamaaGreatDoor.Row w a s.l.length s.l) :
 Calls Tryz.prog 96 #[.pointer (some ⟨b,0,.none⟩),.int .i64 e,.agg (s.vs a c).toArray] w fun r w'=>r=.returned (ai (qc D n (df e s)))∧∃ P',DAt w' b n (lw D n (df e s)) P'∧ae (DF P b) (DF P' b) w w':=by
 obtain ⟨X,hX,a0,bX,sX⟩:=one w (.cells (s.vs a c).toArray 36)
 have A0:At X w.heap.size (s.vs a c) 36:=a0
 have HL:Hid (K.Laid X):=hL.later bX
 have HR:Hid (Go.Proofs.YtpkhdihoijkamaaGreatDoor.Row X a s.l.length s.l):=hr.later bX
 have HS:Hid (s.f=0):=hs
 have HD:Hid (DAt X b n D P):=h.later bX (Nat.le_refl _)
 have HM:Hid (ae (DF P b) (DF P b) w X):=ae.of bX (Nat.le_refl _)
 have HLN:Hid ((df e s).length≤64):=abe h1 hs
 clear a0 bX hL hr hs h
 have HLS:Hid ((Instr.loadAt 36 (.pointer (some ⟨w.heap.size,0,.none⟩))).run Tryz.prog X=.ok (.agg (s.vs a c).toArray) X):=jk A0
 go_enter Tryz.func96,Tryz.ntmps96
 go_upto_region 1 with fail
 rw [←hX]
 clear hX
 go_wp2_with (with_reducible refine ak HLS.out rfl rfl ?_)
 refine (ktext_any e h0 h1 s HS.out a c X HL.out HR.out).mono ?_
 rintro r W1 ⟨rfl,b1⟩
 replace HD:Hid (DAt W1 b n D P):=HD.out.later b1 (Nat.le_refl _)
 replace HM:Hid (ae (DF P b) (DF P b) w W1):=HM.out.trans (ae.of b1 (Nat.le_refl _))
 clear b1 HLS HL HR A0
 go_wp2_with fail
 refine (write_any HD.out 0 (df e s) (by have:=HLN.out;omega)).mono ?_
 rintro r W2 ⟨rfl,P2,hd,hm⟩
 have HD2:Hid (DAt W2 b n (qd D n 0 (df e s)) P2):=hd
 have HM2:Hid (ae (DF P b) (DF P2 b) w W2):=HM.out.trans hm
 clear hd hm HD HM
 by_cases hf:pz D n 0 (df e s)=0
 ·have HF:Hid (qc D n (df e s)=jo (qd D n 0 (df e s))):=by show _=_;unfold qc;rw [if_pos hf]
  have HG:Hid (lw D n (df e s)=xu (qd D n 0 (df e s)) n):=by show _=_;unfold lw;rw [if_pos hf]
  rw [hf,show ai 0=.nilIface from rfl]
  clear hf
  obtain ⟨D2,hD2⟩:∃ x,x=qd D n 0 (df e s):=⟨_,rfl⟩
  rw [←hD2] at HD2 HF HG
  clear hD2
  go_wp2_with fail
  refine (flush_any HD2.out).mono ?_
  rintro r W3 ⟨rfl,P3,hd,hm⟩
  have HD3:Hid (DAt W3 b n (xu D2 n) P3):=hd
  have HM3:Hid (ae (DF P b) (DF P3 b) w W3):=HM2.out.trans hm
  clear hd hm HD2 HM2
  go_wp2_with fail
  go_ret
  exact ⟨by rw [HF.out];rfl,P3,by rw [HG.out];exact HD3.out,HM3.out⟩
 ·have HF:Hid (qc D n (df e s)=pz D n 0 (df e s)):=by show _=_;unfold qc;rw [if_neg hf]
  have HG:Hid (lw D n (df e s)=qd D n 0 (df e s)):=by show _=_;unfold lw;rw [if_neg hf]
  have HE:Hid (ai (pz D n 0 (df e s))=.iface 96 (.int .i64 (pz D n 0 (df e s)))):=by show _=_;simp [ai,hf]
  rw [HE.out]
  clear hf
  generalize pz D n 0 (df e s)=ff at *
  go_wp2_with fail
  go_ret
  exact ⟨by rw [HF.out,HE.out];rfl,P2,by rw [HG.out];exact HD2.out,HM2.out⟩
def kpV (b:Nat) (e:Int) (s:KS) (a:Option Addr) (c:Nat):List Value:=.pointer (some ⟨b,0,.none⟩) :: .int .i64 e :: s.vs a c
structure KpAt (w:World) (k b:Nat) (e:Int) (s:KS) (a:Option Addr) (c:Nat):Prop where
 hd:At w k (kpV b e s a c) 154
 row:Go.Proofs.YtpkhdihoijkamaaGreatDoor.Row w a s.l.length s.l
 ok:s.f=0
 e1:1≤e
 e9:e≤1000000
theorem KpAt.moved {F F':Nat→Prop} {w w':World} {k b:Nat} {e:Int} {s:KS} {a:Option Addr} {c:Nat} (h:KpAt w k b e s a c) (hm:ae F F' w w') (hk:¬F k) (hr:∀ p,a=some p→s.l.length≠0→¬F p.block):KpAt w' k b e s a c :=
 ⟨hm.at h.hd hk,xc h.row hm hr,h.ok,h.e1,h.e9⟩
theorem KpAt.later {w w':World} {k b:Nat} {e:Int} {s:KS} {a:Option Addr} {c:Nat} (h:KpAt w k b e s a c) (hb:Below w.heap.size w w'):KpAt w' k b e s a c :=
 ⟨h.hd.later hb h.hd.lt,h.row.later hb,h.ok,h.e1,h.e9⟩
theorem epoch_any {w:World} {k b:Nat} {e:Int} {s:KS} {a:Option Addr} {c:Nat} (h:KpAt w k b e s a c) :
 Calls Tryz.prog 51 #[.pointer (some ⟨k,0,.none⟩)] w fun r w'=>r=.returned (.int .i64 e)∧w'=w:=by
 have c1:w.cell? ⟨k,1,.none⟩=some (.int .i64 e):=h.hd.cell 1
 clear h
 go_enter Tryz.func51,Tryz.ntmps51
 go_wp2
 go_ret
 exact ⟨rfl,rfl⟩
theorem state_any {w:World} {k b:Nat} {e:Int} {s:KS} {a:Option Addr} {c:Nat} (h:KpAt w k b e s a c) :
 Calls Tryz.prog 50 #[.pointer (some ⟨k,0,.none⟩)] w fun r w'=>∃ a' c',r=.returned (.agg (s.vs a' c').toArray)∧Go.Proofs.YtpkhdihoijkamaaGreatDoor.Row w' a' s.l.length s.l∧(∀ p,a'=some p→w.heap.size≤p.block∧p.block<w'.heap.size)∧Below w.heap.size w w':=by
 obtain ⟨X,hX,a1,bX,sX⟩:=one w (.cells #[.int .i64 0,.slice .none 0 0,.int .i64 0,.int .i64 0,.bool false] 36)
 have A1:At X w.heap.size zst 36:=a1
 have HK:Hid (KpAt X k b e s a c):=h.later bX
 have HB:Hid (Below w.heap.size w X):=bX
 have HLS:Hid ((Instr.loadAt 36 (.pointer (some ⟨k,2,.none⟩))).run Tryz.prog X=.ok (.agg (s.vs a c).toArray) X):=load_stO HK.out.hd (fun j _=>by rw [Nat.add_comm];rfl)
 have hln:=KS.len HK.out.ok
 clear a1 bX h
 go_enter Tryz.func50,Tryz.ntmps50
 go_upto_region 1 with fail
 rw [←hX]
 clear hX
 go_wp2_with (with_reducible refine ak HLS.out rfl rfl ?_)
 refine (kclone_any s a c X HK.out.row (by omega)).mono ?_
 rintro r W1 ⟨a',c',rfl,hr,hq,b1⟩
 have h1:=A1.lt
 replace A1:=A1.later b1 A1.lt
 replace HB:Hid (Below w.heap.size w W1):=HB.out.trans (b1.mono HB.out.size)
 have hs1:=b1.size
 clear b1 HLS HK
 obtain ⟨V3,hst,A3,hm3⟩:=putS s a' c' A1 rfl
 have HST:Hid ((Instr.storeAt 36 (.pointer (some ⟨w.heap.size,0,.none⟩)) (.agg (s.vs a' c').toArray)).run Tryz.prog W1=.ok () V3):=hst
 have HB3:Hid (Below w.heap.size w V3):=hm3.below HB.out (fun q hq=>by rw [show q=w.heap.size from hq];exact Nat.le_refl _) HB.out.size
 have HR3:Hid (Go.Proofs.YtpkhdihoijkamaaGreatDoor.Row V3 a' s.l.length s.l):=xc hr hm3 (fun p hp _ e=>by have:=(hq p hp).1;have:p.block=w.heap.size:=e;omega)
 have HRS:Hid ((Instr.loadAt 36 (.pointer (some ⟨w.heap.size,0,.none⟩))).run Tryz.prog V3=.ok (.agg (s.vs a' c').toArray) V3):=jk A3
 have hs3:=hm3.size
 clear hm3 A3 A1 HB hst hr
 go_wp2_with (with_reducible refine cu HST.out rfl rfl ?_)
 refine bodyPost_ret (zg Tryz.results50 rfl HRS.out) rfl ⟨a',c',rfl,HR3.out,fun p hp=>?_,HB3.out⟩
 have:=hq p hp
 omega
theorem build_kp (b:Nat) (e:Int) (s:KS) (a:Option Addr) (c:Nat) (w:World):(Instr.build 154 #[(0,.pointer (some ⟨b,0,.none⟩)),(1,.int .i64 e),(2,.agg (s.vs a c).toArray)]).run Tryz.prog w=.ok (.agg (kpV b e s a c).toArray) w:=by kernel_rfl
theorem wp_boxT {T:TypeId} {o:Oper} {a:Act} {w:World} {K:Act→World→Prop} {Q:Exit→Act→World→Prop} (x:Operand) (ho:o.op=.box T x) (l:List Value) (hx:a.eval x=.agg l.toArray)
 (h:∀ W,At W w.heap.size l T→Below w.heap.size w W→W.heap.size=w.heap.size+1→K (a.put o.dst (.pointer (some ⟨w.heap.size,0,.none⟩))) W):o.wp Tryz.prog a w K Q:=by
 unfold Oper.wp execOp
 simp only [ho,hx,Sem.run_bind,Instr.box,newVar,newRow,run_newObj_alloc,Sem.run_pure,Result.andThen_ok]
 exact h _ (heap_alloc_new w _) ((Below.refl _ _).alloc (Nat.le_refl _) _) (by simp)
theorem pad_is {x:List UInt8} (_:x.length≤64):gm x=x ++ List.replicate (64 - x.length) 0:=rfl
theorem open_ok {w:World} {b n:Nat} {D:DM} {P:DP} (h:DAt w b n D P) (hdn:D.down=false) (e:Int) (s:KS) (hs:s.f=0) (h1:1≤e) (h9:e≤1000000) (hk:D.now.getD 0 []=gm (df e s)) (hL:K.Laid w) :
 Calls Tryz.prog 73 #[.pointer (some ⟨b,0,.none⟩)] w fun r w'=>∃ k a c,r=.returned (.tuple #[.pointer (some ⟨k,0,.none⟩),.nilIface])∧KpAt w' k b e s a c∧Below w.heap.size w w'∧w.heap.size≤k∧(∀ p,a=some p→w.heap.size≤p.block∧(s.l.length≠0→p.block≠k)):=by
 have hn1:=h.ok.n1
 have HRD:Hid (Calls Tryz.prog 109 #[.pointer (some ⟨b,0,.none⟩),.int .i64 0] w fun r w'=>r=.returned (.tuple #[.string ⟨(df e s ++ List.replicate (64 - (df e s).length) 0).toArray⟩,.nilIface])∧w'=w):=by
  have:=read_any h 0
  have e1:readF D n 0=0:=by unfold readF;rw [hdn,if_neg (by simp),if_pos];simp [hasD];omega
  rw [e1,show ai 0=.nilIface from rfl] at this
  have e2:readS D n 0=⟨(df e s ++ List.replicate (64 - (df e s).length) 0).toArray⟩:=by
   unfold readS
   rw [e1,if_pos rfl,show (0:Int).toNat=0 from rfl,hk];rfl
  rw [e2] at this
  exact this
 have hln:=abe h9 hs
 have HTR:Hid (∀ W,Calls Tryz.prog 111 #[.string ⟨(df e s ++ List.replicate (64 - (df e s).length) 0).toArray⟩,.string ⟨#[0]⟩] W fun r w'=>r=.returned (.string ⟨(df e s).toArray⟩)∧w'=W):=fun W=>trimRight_any _ _ (fun c hc=>ktxt_nz e s c (List.mem_of_getLast? hc)) (by omega) (by omega) W
 have HPA:Hid (∀ W,K.Laid W→Calls Tryz.prog 110 #[.string ⟨(df e s).toArray⟩] W fun r w'=>∃ a c,r=.returned (.tuple #[.int .i64 e,.agg (s.vs a c).toArray,.nilIface])∧Go.Proofs.YtpkhdihoijkamaaGreatDoor.Row w' a s.l.length s.l∧(∀ p,a=some p→W.heap.size≤p.block∧(s.l.length≠0→p.block<w'.heap.size))∧Below W.heap.size W w'):=fun W hW=>kparse_ok e h1 h9 s hs W hW
 have HL:Hid (K.Laid w):=hL
 have HS:Hid (s.f=0∧1≤e∧e≤1000000):=⟨hs,h1,h9⟩
 obtain ⟨q0,hq0⟩:∃ q,(⟨(df e s ++ List.replicate (64 - (df e s).length) 0).toArray⟩:ByteArray)=q:=⟨_,rfl⟩
 obtain ⟨q1,hq1⟩:∃ q,(⟨(df e s).toArray⟩:ByteArray)=q:=⟨_,rfl⟩
 rw [hq0] at HRD HTR
 rw [hq1] at HTR HPA
 clear hq0 hq1 hk hL hs h1 h9 hln hn1 h hdn
 go_enter Tryz.func73,Tryz.ntmps73
 go_wp2_with fail
 refine HRD.out.mono ?_
 rintro r W0 ⟨rfl,rfl⟩
 go_wp2_with fail
 refine (HTR.out _).mono ?_
 rintro r W1 ⟨rfl,rfl⟩
 go_wp2_with fail
 refine (HPA.out _ HL.out).mono ?_
 rintro r W2 ⟨a,c,rfl,hr,hn,b1⟩
 obtain ⟨V,hst,A9,bV⟩:=newS s a c W2
 have HST:Hid ((Instr.storeAt 36 (.pointer (some ⟨W2.heap.size,0,.none⟩)) (.agg (s.vs a c).toArray)).run Tryz.prog (W2.alloc (.cells #[.int .i64 0,.slice .none 0 0,.int .i64 0,.int .i64 0,.bool false] 36))=.ok () V):=hst
 have HLD:Hid ((Instr.loadAt 36 (.pointer (some ⟨W2.heap.size,0,.none⟩))).run Tryz.prog V=.ok (.agg (s.vs a c).toArray) V):=jk A9
 have HB:Hid (Below W1.heap.size W1 V):=b1.trans (bV.mono b1.size)
 have HR:Hid (Go.Proofs.YtpkhdihoijkamaaGreatDoor.Row V a s.l.length s.l):=hr.later bV
 have h12:=b1.size
 have h2V:=bV.size
 have HN:Hid (∀ p,a=some p→W1.heap.size≤p.block∧(s.l.length≠0→p.block<V.heap.size)):=fun p hp=>⟨(hn p hp).1,fun h0=>by have:=(hn p hp).2 h0;omega⟩
 have HBK:Hid ((Instr.build 154 #[(0,.pointer (some ⟨b,0,.none⟩)),(1,.int .i64 e),(2,.agg (s.vs a c).toArray)]).run Tryz.prog V=.ok (.agg (kpV b e s a c).toArray) V):=build_kp b e s a c V
 clear hst A9 bV hr hn b1 HPA HTR HRD HL
 go_upto_region 7 with (with_reducible refine cu HST.out rfl rfl ?_)
 clear HST
 go_wp2_with (first|(with_reducible refine ak HLD.out rfl rfl ?_)|(with_reducible refine abd HBK.out (by simp [Act.eval,Act.put]) ?_)|(refine wpList_plain rfl fun K hK=>wp_boxT _ rfl (kpV b e s a c) rfl fun W A bb ss=>hK _ _ ?_))
 go_ret2
 have h1W:=bb.size
 refine ⟨V.heap.size,a,c,rfl,⟨A,HR.out.later bb,HS.out.1,HS.out.2.1,HS.out.2.2⟩,HB.out.trans (bb.mono HB.out.size),HB.out.size,fun p hp=>⟨(HN.out p hp).1,fun h0 e=>?_⟩⟩
 have:=(HN.out p hp).2 h0
 omega
theorem KS.none_ok:KS.none.f=0:=by decide
theorem format_any {w:World} {b n:Nat} {D:DM} {P:DP} (h:DAt w b n D P) (hL:K.Laid w) :
 Calls Tryz.prog 64 #[.pointer (some ⟨b,0,.none⟩)] w fun r w'=>(r=.returned (ai (if n<6 then 6 else qc D n (df 1 KS.none))))∧∃ P',DAt w' b n (if n<6 then D else lw D n (df 1 KS.none)) P'∧ae (DF P b) (DF P' b) w w':=by
 have HD:Hid (DAt w b n D P):=h
 have HL:Hid (K.Laid w):=hL
 have HSC:Hid (Calls Tryz.prog 95 #[.pointer (some ⟨b,0,.none⟩)] w fun r w'=>r=.returned (.int .i64 n)∧w'=w):=sectors_any h
 clear h hL
 by_cases h6:n<6
 ·have h6':(n:Int)<6:=by omega
  rw [if_pos h6,if_pos h6,show ai 6=.iface 96 (.int .i64 6) from rfl]
  go_enter Tryz.func64,Tryz.ntmps64
  go_wp2_with fail
  refine HSC.out.mono ?_
  rintro r W1 ⟨rfl,rfl⟩
  go_wp2
  go_ret
  exact ⟨rfl,P,HD.out,ae.refl _ _⟩
 ·have h6':¬(n:Int)<6:=by omega
  rw [if_neg h6,if_neg h6]
  clear h6
  go_enter Tryz.func64,Tryz.ntmps64
  go_wp2_with fail
  refine HSC.out.mono ?_
  rintro r W1 ⟨rfl,rfl⟩
  go_wp2_with fail
  refine (store_any HD.out 1 (by decide) (by decide) KS.none KS.none_ok .none 0 HL.out (Go.Proofs.YtpkhdihoijkamaaGreatDoor.kv W1)).mono ?_
  rintro r W2 ⟨rfl,P2,hd,hm⟩
  have HD2:Hid (DAt W2 b n (lw D n (df 1 KS.none)) P2):=hd
  have HM2:Hid (ae (DF P b) (DF P2 b) W1 W2):=hm
  clear hd hm HD
  obtain ⟨ev,hev⟩:∃ ev,ev=ai (qc D n (df 1 KS.none)):=⟨_,rfl⟩
  rw [←hev]
  have HE:Hid (ev=ai (qc D n (df 1 KS.none))):=hev
  clear hev
  go_wp2_with fail
  go_ret
  exact ⟨by rw [←HE.out];rfl,P2,HD2.out,HM2.out⟩
structure Dk (w0 w:World) (b n:Nat) (D:DM) (P:DP):Prop where
 d:DAt w b n D P
 bw:Below w0.heap.size w0 w
 ld:∀ q,DF P b q→w0.heap.size≤q
section
variable {w0 w w':World} {k b n:Nat} {e:Int} {s:KS} {a:Option Addr} {c:Nat} {D D':DM} {P P':DP}
theorem Dk.later (h:Dk w0 w b n D P) (hb:Below w.heap.size w w'):Dk w0 w' b n D P:=⟨h.d.later hb (Nat.le_refl _),h.bw.trans (hb.mono h.bw.size),h.ld⟩
theorem Dk.disk (h:Dk w0 w b n D P) (hd:DAt w' b n D' P') (hm:ae (DF P b) (DF P' b) w w'):Dk w0 w' b n D' P':=⟨hd,hm.below h.bw h.ld h.bw.size,hm.above h.ld h.bw.size⟩
end
def KF (P:DP) (b k:Nat) (a:Option Addr) (s:KS):Nat→Prop:=fun q=>DF P b q∨q=k∨∃ p,a=some p∧s.l.length≠0∧p.block=q
def okE (e:Int):Prop:=1≤e∧e≤1000000
instance (e:Int):Decidable (okE e):=inferInstanceAs (Decidable (_∧_))
def keepF (D:DM) (n:Nat) (e:Int) (s:KS):Int:=if okE e then if s.f=0 then qc D n (df e s) else s.f else 1
def keepD (D:DM) (n:Nat) (e:Int) (s:KS):DM:=if okE e∧s.f=0 then lw D n (df e s) else D
def uu (D:DM) (n:Nat) (e0:Int) (s0:KS) (e:Int) (s:KS):Int × KS:=if keepF D n e s=0 then (e,s) else (e0,s0)
theorem kp_store (b:Nat) (e e':Int) (s s':KS) (a a':Option Addr) (c c':Nat):il ((kpV b e s a c).set 1 (.int .i64 e')) 2 (s'.vs a' c')=kpV b e' s' a' c':=rfl
structure Ck (D:DM) (x:Sec):Prop where
 kept:D.kept.getD 0 []=x
 now:D.now.getD 0 []=x
 since:D.since.getD 0 []=[]
 up:D.down=false
theorem aay {α:Type} (n:Nat) (a d:α) (hn:1≤n):(List.replicate n a).getD 0 d=a:=by
 cases n with
 | zero=>omega
 | succ n=>rfl
theorem zip0 (keep:Int) (k:List Sec) (s:List (List Wr)) (hk:1≤k.length) (hs:1≤s.length):(k.zipWith (resS keep) s).getD 0 []=resS keep (k.getD 0 []) (s.getD 0 []):=by
 cases k with
 | nil=>simp at hk
 | cons a k=>cases s with
   | nil=>simp at hs
   | cons b s=>rfl
theorem Ck.new {n:Nat} (hn:1≤n):Ck (lq n) zsec:=⟨aay n _ _ hn,aay n _ _ hn,aay n _ _ hn,rfl⟩
section
variable {D:DM} {n:Nat} {x y:Sec}
theorem stepB_down (h:qj D=false):D.down=false∧(az D).down=false:=by
 unfold qj at h
 rw [Bool.or_eq_false_iff] at h
 refine ⟨h.2,?_⟩
 unfold az
 rw [h.1,h.2]
 simp only [Bool.false_eq_true,if_false]
 split
 ·rfl
 ·exact h.2
theorem stepF_zero (h:qj D=false):jo D=0:=by unfold jo;rw [h];rfl
theorem stepF_ten (h:qj D=true):jo D=10:=by unfold jo;rw [h];rfl
theorem hasD0 (ok:D.OK n):hasD n 0=true:=by have:=ok.n1;simp [hasD];omega
theorem store_ck (h:Ck D x) (ok:D.OK n) (t:List UInt8) (ht:t.length≤64) :
 (qc D n t=0∧Ck (lw D n t) (gm t))∨(qc D n t=10∧∀ keep,(Ck (resD (lw D n t) n keep) x∨Ck (resD (lw D n t) n keep) (gm t))∧Calm (resD (lw D n t) n keep)):=by
 have hn:=ok.n1
 have hb:hasD n 0=true∧t.length≤64:=⟨hasD0 ok,ht⟩
 have hw:pz D n 0 t=jo D:=by unfold pz;rw [if_pos hb]
 have hd:qd D n 0 t=if qj D=true then az D else putD (az D) 0 t:=by unfold qd;rw [if_pos hb];rfl
 cases hs:qj D
 ·rw [hs,if_neg (by simp)] at hd
  have hf:pz D n 0 t=0:=by rw [hw];exact stepF_zero hs
  have hF:qc D n t=jo (putD (az D) 0 t):=by unfold qc;rw [if_pos hf,hd]
  have hD:lw D n t=xu (putD (az D) 0 t) n:=by unfold lw;rw [if_pos hf,hd]
  have kk:(putD (az D) 0 t).kept.getD 0 []=x:=by show (az D).kept.getD 0 []=x;rw [acg];exact h.kept
  have nl:0<(az D).now.length:=by rw [stepD_now,ok.m];omega
  have sl:0<(az D).since.length:=by rw [acb,ok.s];omega
  have nn:(putD (az D) 0 t).now.getD 0 []=gm t:=by
   show ((az D).now.set 0 (gm t)).getD 0 []=gm t
   simp only [List.getD];rw [List.getElem?_set_self nl];rfl
  have ss:(putD (az D) 0 t).since.getD 0 []=[⟨(az D).next,gm t⟩]:=by
   show ((az D).since.set 0 (lm (az D).next ((az D).since.getD 0 []) ++ [⟨(az D).next,gm t⟩])).getD 0 []=_
   have e0:(az D).since.getD 0 []=[]:=by rw [acb];exact h.since
   rw [e0]
   simp only [List.getD];rw [List.getElem?_set_self sl];rfl
  have kl:(putD (az D) 0 t).kept.length=n:=by show (az D).kept.length=n;rw [acg];exact ok.k
  have sl2:(putD (az D) 0 t).since.length=n:=by
   show ((az D).since.set 0 _).length=n
   rw [List.length_set,acb];exact ok.s
  generalize putD (az D) 0 t=E at *
  cases hs2:qj E
  ·left
   refine ⟨by rw [hF];exact stepF_zero hs2,?_⟩
   rw [hD]
   unfold xu
   rw [hs2,if_neg (by simp)]
   refine ⟨?_,?_,aay n _ _ hn,(stepB_down hs2).2⟩
   ·show (az E).now.getD 0 []=_;rw [stepD_now];exact nn
   ·show (az E).now.getD 0 []=_;rw [stepD_now];exact nn
  ·right
   refine ⟨by rw [hF];exact stepF_ten hs2,fun keep=>⟨?_,⟨rfl,rfl⟩⟩⟩
   rw [hD]
   unfold xu
   rw [hs2,if_pos rfl]
   have e:((az E).kept.zipWith (resS keep) (az E).since).getD 0 []=if bitB keep (az D).next=true then gm t else x:=by
    rw [acg,acb,zip0 keep _ _ (by omega) (by omega),kk,ss];rfl
   by_cases hbit:bitB keep (az D).next=true
   ·rw [if_pos hbit] at e
    exact .inr ⟨e,e,aay n _ _ hn,rfl⟩
   ·rw [if_neg hbit] at e
    exact .inl ⟨e,e,aay n _ _ hn,rfl⟩
 ·right
  rw [hs,if_pos rfl] at hd
  have hf:pz D n 0 t=10:=by rw [hw];exact stepF_ten hs
  have hF:qc D n t=10:=by unfold qc;rw [if_neg (by rw [hf];decide),hf]
  have hD:lw D n t=az D:=by unfold lw;rw [if_neg (by rw [hf];decide),hd]
  refine ⟨hF,fun keep=>⟨.inl ?_,⟨rfl,rfl⟩⟩⟩
  rw [hD]
  have e:((az D).kept.zipWith (resS keep) (az D).since).getD 0 []=x:=by
   rw [acg,acb,zip0 keep _ _ (by rw [ok.k];exact hn) (by rw [ok.s];exact hn),h.kept,h.since];rfl
  exact ⟨e,e,aay n _ _ hn,rfl⟩
theorem store_calm (h:Calm D) (ok:D.OK n) (t:List UInt8) (ht:t.length≤64):qc D n t=0∧Calm (lw D n t):=by
 have hf:pz D n 0 t=0:=by rw [h.pz,if_pos ⟨hasD0 ok,ht⟩]
 have h1:=h.write n 0 t
 refine ⟨by unfold qc;rw [if_pos hf];exact h1.jo,?_⟩
 unfold lw;rw [if_pos hf];exact h1.flushed n
theorem keepF_is {e:Int} {s:KS} (he:okE e) (hs:s.f=0):keepF D n e s=qc D n (df e s)∧keepD D n e s=lw D n (df e s):=by
 unfold keepF keepD
 rw [if_pos he,if_pos hs,if_pos ⟨he,hs⟩]
 exact ⟨rfl,rfl⟩
end
theorem new_above {w:World} {b n:Nat} {P:DP} (h1:w.heap.size≤b) (h2:w.heap.size≤P.kb) (h3:w.heap.size≤P.nb) (h4:w.heap.size≤P.sb) (h5:P.svs=fw n):∀ q,DF P b q→w.heap.size≤q:=by
 rintro q (rfl|rfl|rfl|rfl|⟨v,hv,hk⟩)
 ·exact h1
 ·exact h2
 ·exact h3
 ·exact h4
 ·rw [h5] at hv
  obtain rfl:v=.slice .none 0 0:=(List.mem_replicate.1 hv).2
  simp [Value.ownBlock] at hk
theorem ret_ttt {P:Program} {fn:Func} {q r t:Tmp} {tmps:Array Value} {w:World} (h:fn.results=#[.tmp q,.tmp r,.tmp t]):(results fn tmps).run P w=.ok (.tuple #[tmps.getD q undef,tmps.getD r undef,tmps.getD t undef]) w:=by
 simp [results,h]
structure ig where
 kind:ByteArray
 a:Int
 b:Int
 s:ByteArray
 k:Int
 gen:Int
 ra:Option Addr
 rn:Nat
 rc:Nat
 regs:List (Int × Int)
 ty:Int
 hd:Int
 st:Bool
 op:Int
 who:Int
 key:Int
 new:Int
 cty:Int
 at':Int
 cst:Bool
 da:ByteArray
 wa:ByteArray
instance : Inhabited ig := ⟨⟨⟨#[]⟩, 0, 0, ⟨#[]⟩, 0, 0, .none, 0, 0, [], 0, 0, false, 0, 0, 0, 0, 0, 0, false, ⟨#[]⟩, ⟨#[]⟩⟩⟩
def ig.vs (x:ig):List Value:=[.string x.kind,.int .i64 x.a,.int .i64 x.b,.string x.s,.int .u64 x.k,.int .i64 x.gen,.slice x.ra x.rn x.rc,.int .i64 x.ty,.int .i64 x.hd,.bool x.st,.int .i64 x.op,.int .i64 x.who,.int .i64 x.key,.int .i64 x.new,.int .i64 x.cty,.int .i64 x.at',.bool x.cst,.string x.da,.string x.wa]
def RegsAt (w:World) (a:Option Addr) (n:Nat) (l:List (Int × Int)):Prop :=
 l.length=n∧n≤9223372036854775807∧(n≠0→∃ b off,a=some ⟨b,off,none⟩∧∀ i (h:i<l.length),w.cell? ⟨b,off+i*2,none⟩=some (.int .i64 l[i].1)∧w.cell? ⟨b,off+i*2+1,none⟩=some (.int .i64 l[i].2))
theorem RegsAt.later {w w':World} {a:Option Addr} {n:Nat} {l:List (Int × Int)} (h:RegsAt w a n l) (hb:Below w.heap.size w w'):RegsAt w' a n l:=by
 refine ⟨h.1,h.2.1,fun hn=>?_⟩
 obtain ⟨b,off,ha,hc⟩:=h.2.2 hn
 exact ⟨b,off,ha,fun i hi=>⟨cell_later hb (hc i hi).1,cell_later hb (hc i hi).2⟩⟩
structure ig.OK (W:World) (x:ig):Prop where
 kindz:x.kind.size≤9223372036854775807
 sz:x.s.size≤9223372036854775807
 kwf:(Lit.int .u64 x.k).wf=true
 row:RegsAt W x.ra x.rn x.regs
 daz:x.da.size≤9223372036854775807
 waz:x.wa.size≤9223372036854775807
 awf:(Lit.int .i64 x.a).wf=true
 bwf:(Lit.int .i64 x.b).wf=true
theorem ig.OK.later {W W':World} {x:ig} (h:x.OK W) (hb:Below W.heap.size W W'):x.OK W':=⟨h.kindz,h.sz,h.kwf,h.row.later hb,h.daz,h.waz,h.awf,h.bwf⟩
structure jh (W:World) (a:Option Addr) (n:Nat) (l:List ig):Prop where
 len:l.length=n
 max:n≤9223372036854775807
 ok:∀ x ∈ l,x.OK W
 row:n≠0→∃ b off,a=some ⟨b,off,none⟩∧∀ i (h:i<l.length),W.rangeAt b (off+i*19) l[i].vs
theorem zq {W W':World} {b o:Nat} {cs:List Value} (h:W.rangeAt b o cs) (hb:Below W.heap.size W W'):W'.rangeAt b o cs:=fun j v hv=>cell_later hb (h j v hv)
theorem jh.later {W W':World} {a:Option Addr} {n:Nat} {l:List ig} (h:jh W a n l) (hb:Below W.heap.size W W'):jh W' a n l:=by
 refine ⟨h.len,h.max,fun x hx=>(h.ok x hx).later hb,fun hn=>?_⟩
 obtain ⟨b,off,ha,hc⟩:=h.row hn
 exact ⟨b,off,ha,fun i hi=>zq (hc i hi) hb⟩
theorem Tryz.cellsActA:Tryz.prog.cellsOf 62=19:=by kernel_rfl
theorem Tryz.cellsStateA:Tryz.prog.cellsOf 36=5:=by kernel_rfl
theorem Tryz.cellsCommandA:Tryz.prog.cellsOf 24=9:=by kernel_rfl
theorem Tryz.cellsRegsA:Tryz.prog.cellsOf 34=1:=by kernel_rfl
theorem Tryz.cellsRegA:Tryz.prog.cellsOf 127=2:=by kernel_rfl
theorem Tryz.cellsIntA:Tryz.prog.cellsOf 3=1:=by kernel_rfl
theorem Tryz.cellsBoolA:Tryz.prog.cellsOf 4=1:=by kernel_rfl
theorem Tryz.cellsStringA:Tryz.prog.cellsOf 9=1:=by kernel_rfl
theorem Tryz.cellsU64A:Tryz.prog.cellsOf 60=1:=by kernel_rfl
section
variable {H:Type} {enc:TypeId × Value→H}
theorem adg (b off k:Nat):(⟨b,off,.none⟩:Addr).add k=⟨b,off+k,.none⟩:=by
 cases k <;> simp [Addr.add]
theorem open_regsA {W:World} {fuel:Nat} {cs:List Value} {x:DataW H × List MemPlace} (h:DataW.trod enc Tryz.prog W 0 (fun _=>true) true fuel 34 cs=some x) :
 ∃ a n c l,cs=[.slice a n c]∧RegsAt W a n l:=by
 rcases open_slice_pairs Tryz.underlying34 Tryz.underlying127 Tryz.cellsRegA rfl rfl Tryz.cellsIntA Tryz.cellsIntA h with ⟨rfl,_⟩|⟨a,len,cap,m,n,V0,V1,D0,D1,P0,P1,rfl,_,hl,hm,hmm,_,hx⟩
 ·exact ⟨.none,0,0,[],rfl,rfl,by decide,fun h=>absurd rfl h⟩
 ·have hlm:len≤m:=by rw [hmm];simpa using hl
  have each:∀ i,i<len→∃ q:Int × Int,W.cell? (a.add (i*2))=some (.int .i64 q.1)∧W.cell? (a.add (i*2+1))=some (.int .i64 q.2):=by
   intro i hi
   obtain ⟨e0,e1,t0,t1⟩:=hx i (by omega)
   obtain ⟨n0,h0,_,_⟩:=DataW.trod_int Tryz.underlying3 t0
   obtain ⟨n1,h1,_,_⟩:=DataW.trod_int Tryz.underlying3 t1
   simp only [List.cons.injEq,and_true] at h0 h1
   exact ⟨(n0,n1),by rw [e0,h0],by rw [e1,h1]⟩
  obtain ⟨q,hq⟩:=choose_lt each
  have hml:maxLen≤9223372036854775807:=by unfold maxLen;decide
  refine ⟨some a,len,cap,(List.range len).map q,rfl,by simp,by omega,fun hn=>?_⟩
  obtain ⟨b,off,spot⟩:=a
  have hs:spot=.none:=by simpa [Addr.add] using World.cell?_spot (hq 0 (by omega)).1
  subst hs
  refine ⟨b,off,rfl,fun i hi=>?_⟩
  have hi':i<len:=by simpa using hi
  have:=hq i hi'
  rw [adg,adg] at this
  simpa [Nat.add_assoc] using this
theorem open_actcells {W:World} {fuel:Nat} {cs:List Value} {x:DataW H × List MemPlace} (h:DataW.trod enc Tryz.prog W 0 (fun _=>true) true fuel 62 cs=some x) :
 ∃ y:ig,cs=y.vs∧y.OK W:=by
 have hml:maxLen≤9223372036854775807:=by unfold maxLen;decide
 obtain ⟨xs,m,_,_,hcl,hlen,hfld⟩:=DataW.trod_struct Tryz.underlying62 h
 rw [Tryz.cellsActA] at hcl
 match cs,hcl with
 | [c0,c1,c2,c3,c4,c5,c6,c7,c8,c9,c10,c11,c12,c13,c14,c15,c16,c17,c18],_ =>
   match xs,hlen with
   | [x0,x1,x2,x3,x4,x5,x6],_ =>
     have f0:=hfld 0 _ rfl
     have f1:=hfld 1 _ rfl
     have f2:=hfld 2 _ rfl
     have f3:=hfld 3 _ rfl
     have f4:=hfld 4 _ rfl
     have f5:=hfld 5 _ rfl
     have f6:=hfld 6 _ rfl
     simp [Tryz.cellsIntA,Tryz.cellsStringA,Tryz.cellsU64A,Tryz.cellsStateA,Tryz.cellsCommandA] at f0 f1 f2 f3 f4 f5 f6
     obtain ⟨kind,e0,_,z0⟩:=DataW.trod_string Tryz.underlying9 f0
     obtain ⟨a,e1,_,w1⟩:=DataW.trod_int Tryz.underlying3 f1
     obtain ⟨b,e2,_,w2⟩:=DataW.trod_int Tryz.underlying3 f2
     obtain ⟨s,e3,_,z3⟩:=DataW.trod_string Tryz.underlying9 f3
     obtain ⟨k,e4,_,wk⟩:=DataW.trod_int Tryz.underlying60 f4
     obtain ⟨ys,m5,_,_,_,hlen5,hfld5⟩:=DataW.trod_struct Tryz.underlying36 f5
     match ys,hlen5 with
     | [y0,y1,y2,y3,y4],_ =>
       have g0:=hfld5 0 _ rfl
       have g1:=hfld5 1 _ rfl
       have g2:=hfld5 2 _ rfl
       have g3:=hfld5 3 _ rfl
       have g4:=hfld5 4 _ rfl
       simp [Tryz.cellsIntA,Tryz.cellsRegsA,Tryz.cellsBoolA] at g0 g1 g2 g3 g4
       obtain ⟨gen,e5,_,_⟩:=DataW.trod_int Tryz.underlying3 g0
       obtain ⟨ra,rn,rc,regs,e6,hrow⟩:=open_regsA g1
       obtain ⟨ty,e7,_,_⟩:=DataW.trod_int Tryz.underlying3 g2
       obtain ⟨hd,e8,_,_⟩:=DataW.trod_int Tryz.underlying3 g3
       obtain ⟨st,e9,_⟩:=DataW.trod_bool Tryz.underlying4 g4
       obtain ⟨zs,m6,_,_,_,hlen6,hfld6⟩:=DataW.trod_struct Tryz.underlying24 f6
       match zs,hlen6 with
       | [z0',z1',z2',z3',z4',z5',z6',z7',z8'],_ =>
         have k0:=hfld6 0 _ rfl
         have k1:=hfld6 1 _ rfl
         have k2:=hfld6 2 _ rfl
         have k3:=hfld6 3 _ rfl
         have k4:=hfld6 4 _ rfl
         have k5:=hfld6 5 _ rfl
         have k6:=hfld6 6 _ rfl
         have k7:=hfld6 7 _ rfl
         have k8:=hfld6 8 _ rfl
         simp [Tryz.cellsIntA,Tryz.cellsStringA,Tryz.cellsBoolA] at k0 k1 k2 k3 k4 k5 k6 k7 k8
         obtain ⟨op,e10,_,_⟩:=DataW.trod_int Tryz.underlying3 k0
         obtain ⟨who,e11,_,_⟩:=DataW.trod_int Tryz.underlying3 k1
         obtain ⟨key,e12,_,_⟩:=DataW.trod_int Tryz.underlying3 k2
         obtain ⟨new,e13,_,_⟩:=DataW.trod_int Tryz.underlying3 k3
         obtain ⟨cty,e14,_,_⟩:=DataW.trod_int Tryz.underlying3 k4
         obtain ⟨at',e15,_,_⟩:=DataW.trod_int Tryz.underlying3 k5
         obtain ⟨cst,e16,_⟩:=DataW.trod_bool Tryz.underlying4 k6
         obtain ⟨da,e17,_,z17⟩:=DataW.trod_string Tryz.underlying9 k7
         obtain ⟨wa,e18,_,z18⟩:=DataW.trod_string Tryz.underlying9 k8
         simp only [List.cons.injEq,and_true] at e0 e1 e2 e3 e4 e5 e6 e7 e8 e9 e10 e11 e12 e13 e14 e15 e16 e17 e18
         subst e0 e1 e2 e3 e4 e5 e6 e7 e8 e9 e10 e11 e12 e13 e14 e15 e16 e17 e18
         exact ⟨⟨kind,a,b,s,k,gen,ra,rn,rc,regs,ty,hd,st,op,who,key,new,cty,at',cst,da,wa⟩,rfl,⟨by show kind.size≤_;omega,by show s.size≤_;omega,wk,hrow,by show da.size≤_;omega,by show wa.size≤_;omega,w1,w2⟩⟩
theorem open_actrows {W:World} {fuel:Nat} {cs:List Value} {x:DataW H × List MemPlace} (h:DataW.trod enc Tryz.prog W 0 (fun _=>true) true fuel 22 cs=some x) :
 ∃ a n c l,cs=[.slice a n c]∧jh W a n l:=by
 rcases open_slice Tryz.underlying22 h with ⟨rfl,_⟩|⟨a,len,cap,m,n,D,Pl,rfl,_,hl,hm,hmm,_,hx⟩
 ·exact ⟨.none,0,0,[],rfl,rfl,by decide,fun x hx=>by simp at hx,fun h=>absurd rfl h⟩
 ·have hlm:len≤m:=by rw [hmm];simpa using hl
  have hml:maxLen≤9223372036854775807:=by unfold maxLen;decide
  have each:∀ i,i<len→∃ q:ig,(∀ j v,q.vs[j]? = some v→W.cell? (a.add (i*19+j))=some v)∧q.OK W:=by
   intro i hi
   obtain ⟨cs',h1,h2⟩:=hx i (by omega)
   rw [Tryz.cellsActA] at h1
   obtain ⟨_,hlen,hcell⟩:=World.cells?_some h1
   obtain ⟨y,rfl,hy⟩:=open_actcells h2
   refine ⟨y,fun j v hv=>?_,hy⟩
   have hj:j<19:=by have:=(List.getElem?_eq_some_iff.1 hv).1;rwa [hlen] at this
   have:=hcell j hj
   rw [add_add] at this
   rw [this];exact hv
  obtain ⟨q,hq⟩:=choose_lt each
  refine ⟨some a,len,cap,(List.range len).map q,rfl,by simp,by omega,fun x hx=>?_,fun hn=>?_⟩
  ·obtain ⟨i,hi,rfl⟩:=List.mem_map.1 hx
   exact (hq i (by simpa using hi)).2
  ·obtain ⟨b,off,spot⟩:=a
   have hs:spot=.none:=by simpa [Addr.add] using World.cell?_spot ((hq 0 (by omega)).1 0 _ rfl)
   subst hs
   refine ⟨b,off,rfl,fun i hi=>?_⟩
   have hi':i<len:=by simpa using hi
   intro j v hv
   have:=(hq i hi').1 j v (by simpa using hv)
   rw [adg] at this
   simpa [Nat.add_assoc] using this
theorem aab {W:World} {base:Nat} {v:Value} {d:DataW H} {ps:List MemPlace} (hv:Value.okWide Tryz.prog W .any base 22 v) (h:DataW.Trod enc Tryz.prog W 0 (fun _=>true) true 22 v d ps) :
 ∃ a n c l,v=.slice a n c∧jh W a n l:=by
 obtain ⟨a,n,c,rfl⟩:=okWide_slice Tryz.underlying22 hv
 obtain ⟨fuel,hf⟩:=h
 obtain ⟨a',n',c',l,e,hrow⟩:=open_actrows hf
 simp [Value.cells] at e
 obtain ⟨rfl,rfl,rfl⟩:=e
 exact ⟨_,_,_,l,rfl,hrow⟩
end
theorem retB {a b:Bool} (h:a=b):Ending.returned (.bool a)=.returned (.bool b):=by rw [h]
theorem lightState_any (g:Int) (a:Option Addr) (n c:Nat) (t hd:Int) (y:Bool) (w:World) :
 Calls Tryz.prog 60 #[.agg #[.int .i64 g,.slice a n c,.int .i64 t,.int .i64 hd,.bool y]] w fun e w'=>e=.returned (.bool (decide (n≤6)))∧Below w.heap.size w w':=by
 go_enter Tryz.func60,Tryz.ntmps60
 go_wp2
 go_ret
 exact ⟨retB (by rw [decide_eq_decide];omega),(Below.refl _ _).alloc (Nat.le_refl _) _⟩
theorem lightCommand_any (op who key new cty at':Int) (cst:Bool) (da wa:ByteArray) (w:World) (hd:da.size≤9223372036854775807) (hw:wa.size≤9223372036854775807) :
 Calls Tryz.prog 61 #[.agg #[.int .i64 op,.int .i64 who,.int .i64 key,.int .i64 new,.int .i64 cty,.int .i64 at',.bool cst,.string da,.string wa]] w fun e w'=>e=.returned (.bool (decide (da.size≤20) && decide (wa.size≤20)))∧Below w.heap.size w w':=by
 by_cases h:da.size≤20
 ·have h1:((da.size:Int)≤20):=by omega
  go_enter Tryz.func61,Tryz.ntmps61
  go_wp2
  go_ret
  exact ⟨retB (by simp [h];omega),(Below.refl _ _).alloc (Nat.le_refl _) _⟩
 ·have h1:¬((da.size:Int)≤20):=by omega
  have HR:Hid ((decide (da.size≤20) && decide (wa.size≤20))=false):=by show _=_;simp [h]
  clear h
  go_enter Tryz.func61,Tryz.ntmps61
  go_wp2
  go_ret
  exact ⟨retB HR.out.symm,(Below.refl _ _).alloc (Nat.le_refl _) _⟩
def aac (x:ig):Bool:=decide (x.s.size≤100) && (decide (x.rn≤6) && (decide (x.da.size≤20) && decide (x.wa.size≤20)))
def om (l:List ig) (most:Int):Bool:=decide ((l.length:Int)≤most) && l.all aac
theorem lightA_no {l:List ig} {most:Int} {k:Nat} (hk:k<l.length) (h:aac l[k]=false):om l most=false:=by
 unfold om
 have:l.all aac=false:=by
  rw [List.all_eq_false]
  exact ⟨l[k],List.getElem_mem hk,by rw [h];decide⟩
 rw [this,Bool.and_false]
theorem jh.cells {W:World} {b:Nat} {x:ig} {o:Nat} (h:W.rangeAt b o x.vs) :
 W.cell? ⟨b,o+3,.none⟩=some (.string x.s) ∧
 (W.cell? ⟨b,o+5,.none⟩=some (.int .i64 x.gen)∧W.cell? ⟨b,o+6,.none⟩=some (.slice x.ra x.rn x.rc)∧W.cell? ⟨b,o+7,.none⟩=some (.int .i64 x.ty)∧W.cell? ⟨b,o+8,.none⟩=some (.int .i64 x.hd)∧W.cell? ⟨b,o+9,.none⟩=some (.bool x.st)) ∧
 (W.cell? ⟨b,o+10,.none⟩=some (.int .i64 x.op)∧W.cell? ⟨b,o+11,.none⟩=some (.int .i64 x.who)∧W.cell? ⟨b,o+12,.none⟩=some (.int .i64 x.key)∧W.cell? ⟨b,o+13,.none⟩=some (.int .i64 x.new)∧W.cell? ⟨b,o+14,.none⟩=some (.int .i64 x.cty)∧W.cell? ⟨b,o+15,.none⟩=some (.int .i64 x.at')∧W.cell? ⟨b,o+16,.none⟩=some (.bool x.cst)∧W.cell? ⟨b,o+17,.none⟩=some (.string x.da)∧W.cell? ⟨b,o+18,.none⟩=some (.string x.wa)) :=
 ⟨h 3 _ rfl,⟨h 5 _ rfl,h 6 _ rfl,h 7 _ rfl,h 8 _ rfl,h 9 _ rfl⟩,h 10 _ rfl,h 11 _ rfl,h 12 _ rfl,h 13 _ rfl,h 14 _ rfl,h 15 _ rfl,h 16 _ rfl,h 17 _ rfl,h 18 _ rfl⟩
theorem ads (a:Option Addr) (n c:Nat) (l:List ig) (most:Int) (w:World) (h:jh w a n l) :
 Calls Tryz.prog 26 #[.slice a n c,.int .i64 most] w fun e w'=>e=.returned (.bool (om l most))∧Below w.heap.size w w':=by
 obtain rfl:=h.len
 have hmx:=h.max
 have HA:Hid (jh w a l.length l):=h
 clear h
 by_cases hm:most<(l.length:Int)
 ·have hm':decide (most<(l.length:Int))=true:=by simpa using hm
  have HR:Hid (om l most=false):=by show _=_;unfold om;rw [show decide ((l.length:Int)≤most)=false by simp;omega];rfl
  clear hm
  go_enter Tryz.func26,Tryz.ntmps26
  go_wp2
  go_ret
  exact ⟨retB HR.out.symm,Below.refl _ _⟩
 have hm':decide (most<(l.length:Int))=false:=by simpa using hm
 have hle:(l.length:Int)≤most:=by omega
 clear hm
 go_enter Tryz.func26,Tryz.ntmps26
 go_wp2
 go_loopw [5] (fun i wr=>∃ k:Nat,k≤l.length∧i=.int .i64 k∧(l.take k).all aac=true∧Below w.heap.size w wr) (fun i _=>l.length - (intOf i).toNat)
 case atStart=>exact ⟨0,Nat.zero_le _,rfl,rfl,Below.refl _ _⟩
 case round =>
  obtain ⟨k,hk,rfl,hall,bw⟩:=hrel
  by_cases hlt:k<l.length
  ·have hki:(k:Int)<(l.length:Int):=by omega
   obtain ⟨b,off,rfl,hrow⟩:=HA.out.row (by omega)
   obtain ⟨c3,⟨c5,c6,c7,c8,c9⟩,c10,c11,c12,c13,c14,c15,c16,c17,c18⟩:=jh.cells (b:=b) (zq (hrow k hlt) bw)
   have hxo:=HA.out.ok l[k] (List.getElem_mem hlt)
   have hz3:=hxo.sz
   have hz17:=hxo.daz
   have hz18:=hxo.waz
   have HX:Hid (aac l[k]=(decide (l[k].s.size≤100) && (decide (l[k].rn≤6) && (decide (l[k].da.size≤20) && decide (l[k].wa.size≤20))))):=rfl
   have HN:Hid (aac l[k]=false→om l most=false):=lightA_no hlt
   have HT:Hid (aac l[k]=true→(l.take (k+1)).all aac=true):=by
    intro e
    rw [List.take_succ_eq_append_getElem hlt,List.all_append,hall];simp [e]
   generalize l[k]=x at *
   clear hrow hxo
   by_cases hs:x.s.size≤100
   case neg =>
    have hs':decide ((100:Int)<(x.s.size:Int))=true:=by simp;omega
    have HR:Hid (om l most=false):=HN.out (by rw [HX.out];simp [hs])
    clear HX HN HT hs
    go_wp2_with fail
    go_ret
    exact ⟨retB HR.out.symm,bw⟩
   have hs':decide ((100:Int)<(x.s.size:Int))=false:=by simp;omega
   go_wp2_with fail
   refine (lightState_any x.gen x.ra x.rn x.rc x.ty x.hd x.st wr).mono ?_
   rintro r W1 ⟨rfl,hb1⟩
   replace bw:=bw.trans (hb1.mono bw.size)
   replace c10:=cell_later hb1 c10
   replace c11:=cell_later hb1 c11
   replace c12:=cell_later hb1 c12
   replace c13:=cell_later hb1 c13
   replace c14:=cell_later hb1 c14
   replace c15:=cell_later hb1 c15
   replace c16:=cell_later hb1 c16
   replace c17:=cell_later hb1 c17
   replace c18:=cell_later hb1 c18
   clear c3 c5 c6 c7 c8 c9 hb1
   by_cases hr:x.rn≤6
   case neg =>
    have hr':decide (x.rn≤6)=false:=by simpa using hr
    have HR:Hid (om l most=false):=HN.out (by rw [HX.out];simp [hr])
    clear HX HN HT hr
    go_wp2_with fail
    go_ret
    exact ⟨retB HR.out.symm,bw⟩
   have hr':decide (x.rn≤6)=true:=by simpa using hr
   go_wp2_with fail
   refine (lightCommand_any x.op x.who x.key x.new x.cty x.at' x.cst x.da x.wa W1 hz17 hz18).mono ?_
   rintro r W2 ⟨rfl,hb1⟩
   replace bw:=bw.trans (hb1.mono bw.size)
   clear c10 c11 c12 c13 c14 c15 c16 c17 c18 hb1
   cases hc:(decide (x.da.size≤20) && decide (x.wa.size≤20)) with
   | false =>
     have HR:Hid (om l most=false):=HN.out (by rw [HX.out,hc];simp)
     clear HX HN HT hr hs hc
     go_wp2_with fail
     go_ret
     exact ⟨retB HR.out.symm,bw⟩
   | true =>
     have HT2:Hid ((l.take (k+1)).all aac=true):=HT.out (by rw [HX.out,hc];simp [hs,hr])
     clear HX HN HT hr hs hc hall
     go_wp2_with fail
     exact ⟨⟨k+1,by omega,by go_num,HT2.out,bw⟩,by simp [intOf];omega⟩
  ·obtain rfl:k=l.length:=by omega
   have HR:Hid (om l most=true):=by show _=_;unfold om;rw [List.take_length] at hall;rw [hall];simpa using hle
   go_wp2
   go_ret
   exact ⟨retB HR.out.symm,bw⟩
theorem cell_lt {w:World} {a:Addr} {v:Value} (h:w.cell? a=some v):a.block<w.heap.size:=by
 refine Nat.lt_of_not_le fun hc=>?_
 have hn:w.heap[a.block]? = .none:=by simp;omega
 simp [World.cell?,hn] at h
theorem aa3 {P:Program} {ops:Array Oper} {i:Nat} {o:Oper} {a:Act} {w:World} {Q:Exit→Act→World→Prop} {K:Act→World→Prop} (ho:ops[i]? = some o) (hw:Region.wanted o (yielded ops a.tmps)=true) (h:o.wp P a w K Q):wpOp P ops Q i K a w:=by
 unfold wpOp
 rw [ho]
 simp only [hw,if_true]
 exact .inl h
end Go.Proofs.YtpkhdihoijkamaaGreatDoor.D
