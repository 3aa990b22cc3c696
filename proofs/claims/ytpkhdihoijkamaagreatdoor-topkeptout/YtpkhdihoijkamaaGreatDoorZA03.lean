/- Several texts of this seat in one: DWrite. No statement of the seat is proved here. -/
import Derived.Test.YtpkhdihoijkamaaGreatDoorWT
import Derived.Test.YtpkhdihoijkamaaGreatDoorZA02
import Derived.Laws.CopyOwn
namespace Go.Proofs.YtpkhdihoijkamaaGreatDoor.D
open Go.ChangeShapes Go.WideShapes Go.ChangeAt Go.RowKit Go.Deep
attribute [local go_sem] zc65
def gm (s:List UInt8):Sec:=s ++ List.replicate (64 - s.length) 0
theorem padS_len {s:List UInt8} (h:s.length≤64):(gm s).length=64:=by simp [gm];omega
def pz (D:DM) (n:Nat) (at':Int) (s:List UInt8):Int:=if hasD n at'=true∧s.length≤64 then jo D else 1
def putD (D:DM) (k:Nat) (s:List UInt8):DM:={ D with now:=D.now.set k (gm s),since:=D.since.set k (lm D.next (D.since.getD k []) ++ [⟨D.next,gm s⟩]),next:=(D.next+1) % 64 }
def qd (D:DM) (n:Nat) (at':Int) (s:List UInt8):DM:=if hasD n at'=true∧s.length≤64 then if qj D=true then az D else putD (az D) at'.toNat s else D
theorem build_wr (m:Int) (w:World):(Instr.build 150 #[(0,.int .i64 m)]).run Tryz.prog w=.ok (.agg (Value.int .i64 m :: List.replicate 64 (.int .u8 0)).toArray) w:=by
 refine run_build w _ _ _ ?_
 show _=_
 kernel_rfl
theorem zero_bytes:List.replicate 64 (Value.int .u8 0)=bcs (List.replicate 64 0):=by simp [bcs]
theorem w65 (m:Nat):(Value.int .i64 (m:Int) :: List.replicate 64 (.int .u8 0))=(⟨m,List.replicate 64 0⟩:Wr).vs:=by rw [zero_bytes];rfl
theorem pad_bytes (s:List UInt8) (k:Nat):Lib.byteCells s ++ (bcs (List.replicate k 0)).drop s.length=bcs (s ++ List.replicate (k - s.length) 0):=by
 unfold bcs Lib.byteCells
 rw [List.map_replicate,List.drop_replicate,List.map_append,List.map_replicate]
theorem copy_wr {X:World} {g m:Nat} {s:List UInt8} (h:At X g (⟨m,List.replicate 64 0⟩:Wr).vs 150) (hs:s.length≤64) :
 ∃ Y,(∀ ty,(Builtin.copy_ #[192,9] ty #[.slice (some ⟨g,1,.none⟩) 64 64,.string ⟨s.toArray⟩]).run Tryz.prog X=.ok (goInt s.length) Y)∧At Y g (⟨m,gm s⟩:Wr).vs 150∧(∀ {B:Nat} {w:World},B≤g→Below B w X→Below B w Y)∧Y.heap.size=X.heap.size:=by
 have hsz:(⟨s.toArray⟩:ByteArray).size=s.length:=rfl
 refine ⟨X.setRow g (((⟨m,List.replicate 64 0⟩:Wr).vs.toArray.toList.take 1 ++ Lib.byteCells (⟨s.toArray⟩:ByteArray).data.toList ++ (⟨m,List.replicate 64 0⟩:Wr).vs.toArray.toList.drop (1+(⟨s.toArray⟩:ByteArray).size)).toArray),fun ty=>?_,?_,fun hB hb=>below_setRow hb hB _,by simp [World.setRow]⟩
 ·exact Lib.run_copy_row_string (P:=Tryz.prog) X 192 9 ty 5 g 1 64 64 ⟨s.toArray⟩ _ 150 Tryz.underlying192 (by kernel_rfl) h (by rw [hsz];exact hs) (by rw [hsz,List.size_toArray,Wr.vlen (by simp)];omega)
 ·have:=setRow_heap X g _ ((((⟨m,List.replicate 64 0⟩:Wr).vs.toArray.toList.take 1 ++ Lib.byteCells (⟨s.toArray⟩:ByteArray).data.toList ++ (⟨m,List.replicate 64 0⟩:Wr).vs.toArray.toList.drop (1+(⟨s.toArray⟩:ByteArray).size)).toArray)) _ _ h
  unfold At
  rw [this]
  congr 3
  rw [hsz,Nat.add_comm 1]
  show [Value.int .i64 (m:Int)] ++ Lib.byteCells s ++ (bcs (List.replicate 64 0)).drop s.length=Value.int .i64 (m:Int) :: bcs (gm s)
  rw [List.append_assoc,pad_bytes s 64]
  rfl
set_option maxRecDepth 100000 in
set_option maxHeartbeats 8000000 in
theorem write_any {w:World} {b n:Nat} {D:DM} {P:DP} (h:DAt w b n D P) (at':Int) (s:List UInt8) (hs9:s.length≤1000000) :
 Calls Tryz.prog 121 #[.pointer (some ⟨b,0,.none⟩),.int .i64 at',.string ⟨s.toArray⟩] w fun e w'=>e=.returned (ai (pz D n at' s))∧∃ P',DAt w' b n (qd D n at' s) P'∧ae (DF P b) (DF P' b) w w':=by
 have HH:Hid (∀ x,Calls Tryz.prog 136 #[.pointer (some ⟨b,0,.none⟩),.int .i64 x] w fun e w'=>e=.returned (.bool (hasD n x))∧w'=w):=fun x=>has_any h x
 have HS:Hid (Calls Tryz.prog 157 #[.pointer (some ⟨b,0,.none⟩)] w fun e w'=>e=.returned (ai (jo D))∧DAt w' b n (az D) P∧ae (Is b) (Is b) w w'):=step_any h
 have HD:Hid (DAt w b n D P):=h
 have hsz:(⟨s.toArray⟩:ByteArray).size=s.length:=rfl
 clear h
 cases hh:hasD n at'
 ·have HF:Hid (pz D n at' s=1):=by show _=_;simp [pz,hh]
  have HW:Hid (qd D n at' s=D):=by show _=_;simp [qd,hh]
  have HHK:Hid (Calls Tryz.prog 136 #[.pointer (some ⟨b,0,.none⟩),.int .i64 at'] w fun e w'=>e=.returned (.bool false)∧w'=w):=by have:=HH.out at';rw [hh] at this;exact this
  clear HH hh hsz
  go_enter Tryz.func121,Tryz.ntmps121
  go_wp2_with fail
  refine HHK.out.mono ?_
  rintro e _ ⟨rfl,rfl⟩
  go_wp2
  go_ret
  exact ⟨by rw [HF.out];rfl,P,by rw [HW.out];exact HD.out,ae.refl _ _⟩
 have HHK:Hid (Calls Tryz.prog 136 #[.pointer (some ⟨b,0,.none⟩),.int .i64 at'] w fun e w'=>e=.returned (.bool true)∧w'=w):=by have:=HH.out at';rw [hh] at this;exact this
 by_cases hs:s.length≤64
 case neg =>
  have HF:Hid (pz D n at' s=1):=by show _=_;simp [pz,hs]
  have HW:Hid (qd D n at' s=D):=by show _=_;simp [qd,hs]
  have hl1:64<s.length:=by omega
  have hl2:(64:Int)<((⟨s.toArray⟩:ByteArray).size:Int):=by omega
  have hl3:64<(⟨s.toArray⟩:ByteArray).size:=by omega
  clear HH hh hsz hs
  go_enter Tryz.func121,Tryz.ntmps121
  go_wp2_with fail
  refine HHK.out.mono ?_
  rintro e _ ⟨rfl,rfl⟩
  go_wp2
  go_ret
  exact ⟨by rw [HF.out];rfl,P,by rw [HW.out];exact HD.out,ae.refl _ _⟩
 have hl1:¬64<s.length:=by omega
 have hl2:decide ((64:Int)<((⟨s.toArray⟩:ByteArray).size:Int))=false:=by simp;omega
 have hl3:¬64<(⟨s.toArray⟩:ByteArray).size:=by omega
 have HSL:Hid (s.length≤64):=hs
 have HF:Hid (pz D n at' s=jo D):=by show _=_;simp [pz,hh,hs]
 cases hsb:qj D
 case true =>
  have HW:Hid (qd D n at' s=az D):=by show _=_;simp [qd,hh,hs,hsb]
  have HSF:Hid (jo D=10):=by show _=_;simp [jo,hsb]
  clear HH hh hsz hs hsb
  go_enter Tryz.func121,Tryz.ntmps121
  go_wp2_with fail
  refine HHK.out.mono ?_
  rintro e w ⟨rfl,rfl⟩
  go_wp2_with fail
  refine HS.out.mono ?_
  rintro e w1 ⟨rfl,hd1,hm1⟩
  rw [HSF.out,show ai 10=.iface 96 (.int .i64 10) from rfl]
  have HD1:Hid (DAt w1 b n (az D) P):=hd1
  have HM1:Hid (ae (DF P b) (DF P b) w w1):=hm1.mono (fun k hk=>.inl hk) (fun k hk=>.inl hk)
  clear hd1 hm1
  go_wp2
  go_ret
  exact ⟨by rw [HF.out,HSF.out];rfl,P,by rw [HW.out];exact HD1.out,HM1.out⟩
 have HW:Hid (qd D n at' s=putD (az D) at'.toNat s):=by show _=_;simp [qd,hh,hs,hsb]
 have HSF:Hid (jo D=0):=by show _=_;simp [jo,hsb]
 obtain ⟨k,rfl,hk⟩:∃ k:Nat,at'=k∧k<n:=by
  simp [hasD] at hh
  exact ⟨at'.toNat,by omega,by omega⟩
 have hki:(k:Int)<(n:Int):=by omega
 clear HH hh hsz hs hsb
 go_enter Tryz.func121,Tryz.ntmps121
 go_wp2_with fail
 refine HHK.out.mono ?_
 rintro e w ⟨rfl,rfl⟩
 go_wp2_with fail
 refine HS.out.mono ?_
 rintro e w1 ⟨rfl,hd1,hm1⟩
 rw [HSF.out,show ai 0=.nilIface from rfl]
 have HM1:Hid (ae (DF P b) (DF P b) w w1):=hm1.mono (fun k hk=>.inl hk) (fun k hk=>.inl hk)
 obtain ⟨E,hE⟩:∃ E,E=az D:=⟨_,rfl⟩
 rw [←hE] at hd1
 have HE:Hid (E=az D):=hE
 have HD1:Hid (DAt w1 b n E P):=hd1
 obtain ⟨m,hm⟩:∃ m,m=E.next:=⟨_,rfl⟩
 have HME:Hid (m=E.next):=hm
 have c3:w1.cell? ⟨b,3,.none⟩=some (.int .i64 m):=by rw [hm];exact hd1.cells.2.2.2.1
 clear hd1 hm1 hE hm HHK HS hl1 hl2 hl3
 -- the write itself, boxed
 obtain ⟨X,hX,a0,bX,sX⟩:=one w1 (.cells z65.toArray 150)
 have A0:At X w1.heap.size z65 150:=a0
 have hwl:(⟨m,List.replicate 64 0⟩:Wr).data.length=64:=by simp
 have hst:=store_wr (o:=0) A0 hwl (by rw [z65_len];decide)
 have A1:=At.set (⟨m,List.replicate 64 0⟩:Wr).vs 0 _ _ A0
 rw [ik _ _ (by rw [Wr.vlen hwl,z65_len])] at A1
 have bY:=below_setCells (Nat.le_refl w1.heap.size) (⟨m,List.replicate 64 0⟩:Wr).vs 0 _ bX
 rw [hX] at hst
 rw [←w65] at hst
 generalize hYe:X.setCells w1.heap.size 0 (⟨m,List.replicate 64 0⟩:Wr).vs=Y at *
 have HYE:(w1.alloc (.cells z65.toArray 150)).setCells w1.heap.size 0 (Value.int .i64 (m:Int) :: List.replicate 64 (.int .u8 0))=Y:=by rw [w65,←hX];exact hYe
 rw [HYE] at hst
 have HST:Hid ((Instr.storeAt 150 (.pointer (some ⟨w1.heap.size,0,.none⟩)) (.agg (Value.int .i64 (m:Int) :: List.replicate 64 (.int .u8 0)).toArray)).run Tryz.prog (w1.alloc (.cells z65.toArray 150))=.ok () Y):=hst
 obtain ⟨Z,hcp,A2,hbZ,_⟩:=copy_wr A1 HSL.out
 have bZ:Below w1.heap.size w1 Z:=hbZ (Nat.le_refl _) bY
 have HBU:Hid ((Instr.build 150 #[(0,.int .i64 (m:Int))]).run Tryz.prog (w1.alloc (.cells z65.toArray 150))=.ok (.agg (Value.int .i64 (m:Int) :: List.replicate 64 (.int .u8 0)).toArray) (w1.alloc (.cells z65.toArray 150))):=build_wr m _
 have HBU1:Hid ((Instr.build 150 #[(0,.int .i64 (m:Int))]).run Tryz.prog w1=.ok (.agg (Value.int .i64 (m:Int) :: List.replicate 64 (.int .u8 0)).toArray) w1):=build_wr m _
 have hz:=zero65
 clear hst HYE hYe a0 A0 hX bX sX bY A1 hbZ
 go_upto_region 8 with (first|(with_reducible refine abd HBU1.out (by simp [Act.eval]) ?_)|(with_reducible refine abd HBU.out (by simp [Act.eval]) ?_)|(with_reducible refine cu HST.out rfl rfl ?_))
 have hA2:=A2
 have HD1Z:Hid (DAt Z b n E P):=HD1.out.later bZ (Nat.le_refl _)
 have HMZ:Hid (ae (DF P b) (DF P b) w Z):=HM1.out.trans (ae.of bZ (Nat.le_refl _))
 have hnf:¬DF P b w1.heap.size:=fun hf=>by have:=HD1.out.foot _ hf;omega
 obtain ⟨bw,hbw⟩:∃ bw,bw=w1.heap.size:=⟨_,rfl⟩
 rw [←hbw] at hA2 hnf ⊢
 have HA2:Hid (At Z bw (⟨m,gm s⟩:Wr).vs 150):=hA2
 clear hA2 A2 hbw hcp HST HBU HBU1 hz hwl bZ c3 HD1 HM1
 have hp64:=padS_len HSL.out
 go_cut [8] (fun bv wx=>bv=.pointer (some ⟨bw,0,.none⟩)∧DAt wx b n { E with now:=E.now.set k (gm s) } P∧At wx bw (⟨m,gm s⟩:Wr).vs 150∧ae (DF P b) (DF P b) w wx)
 case first =>
  have c1:Z.drew.cell? ⟨b,1,.none⟩=some (.slice (some ⟨P.nb,0,.none⟩) n n):=HD1Z.out.cells.2.1
  refine wp_region_held (S:=(fun w'=>w'.cell? ⟨b,1,.none⟩=some (.slice (some ⟨P.nb,0,.none⟩) n n)∧At w' bw (⟨m,gm s⟩:Wr).vs 150)) (by kernel_rfl) ?_
  have HS8:Hid (Z.drew.cell? ⟨b,1,.none⟩=some (.slice (some ⟨P.nb,0,.none⟩) n n)∧At Z.drew bw (⟨m,gm s⟩:Wr).vs 150):=⟨c1,HA2.out⟩
  clear c1
  refine wpG 0 (.pointer (some ⟨b,0,.none⟩)) HS8.out ?_
  refine wpG 1 (.pointer (some ⟨b,0,.none⟩)) HS8.out ?_
  refine wpG 2 (.pointer (some ⟨b,1,.none⟩)) HS8.out ?_
  refine wpT 3 (.slice (some ⟨P.nb,0,.none⟩) n n) (.inl ⟨rfl,fun w' hw'=>?_⟩) HS8.out ?_
  ·(have hc:=hw'.1;go_simp)
  refine wpG 4 (.int .i64 k) HS8.out ?_
  refine wpG 5 (.pointer (some ⟨bw,1,.none⟩)) HS8.out ?_
  refine wpT 6 (.agg (bcs (gm s)).toArray) (.inl ⟨rfl,fun w' hw'=>?_⟩) HS8.out ?_
  ·exact jc (load_wrd (x:=⟨m,gm s⟩) hw'.2 hp64) rfl
  refine wpG 7 (.pointer (some ⟨P.nb,k*64,.none⟩)) HS8.out ?_
  simp [Act.put]
  refine wpA 8 ?_
  have hkl:k<E.now.length:=by rw [HD1Z.out.ok.m];exact hk
  have hlen:=abj E.now HD1Z.out.ok.ml
  have hst:=store_sec (o:=k*64) (X:=Z.drew) HD1Z.out.m hp64 (by rw [hlen];omega)
  have A4:=At.set (bcs (gm s)) (k*64) Z.drew _ HD1Z.out.m
  rw [secs_set E.now k hkl (gm s) HD1Z.out.ok.ml hp64] at A4
  have hmv:ae (Is P.nb) (Is P.nb) Z (Z.drew.setCells P.nb (k*64) (bcs (gm s))):=ae.sets (show Is P.nb P.nb from rfl) _ _ _ (ae.of ((Below.refl _ _).drew) (Nat.le_refl _))
  have hnb:bw≠P.nb:=fun e=>hnf (by rw [e];exact .inr (.inr (.inl rfl)))
  have A5:=At.set_ne hnb (bcs (gm s)) (k*64) Z.drew HA2.out
  have hdn:=HD1Z.out.now hmv (E.now.set k (gm s)) (by rw [List.length_set];exact HD1Z.out.ok.m) (fun x hx=>by
   rcases List.mem_set_or hx with rfl|hx
   ·exact hp64
   ·exact HD1Z.out.ok.ml x hx) A4
  have hmw:ae (DF P b) (DF P b) w (Z.drew.setCells P.nb (k*64) (bcs (gm s))):=HMZ.out.trans (hmv.mono (fun q hq=>.inr (.inr (.inl hq))) (fun q hq=>.inl hq))
  have c1b:=hdn.cells.2.1
  generalize Z.drew.setCells P.nb (k*64) (bcs (gm s))=Y8 at *
  refine ma hst rfl rfl rfl rfl ?_
  refine ⟨⟨c1b,A5⟩,?_⟩
  (try simp [Act.put])
  refine wpZ ?_
  (try simp [Act.put])
  go_wp2_with fail
  go_meet
  exact ⟨rfl,hdn,A5,hmw⟩
 case rest =>
 obtain ⟨rfl,hd8,A8,hm8⟩:=hcut
 obtain ⟨W8,rfl⟩:∃ W,W=wc:=⟨_,rfl⟩
 clear HD1Z HMZ HA2
 obtain ⟨E8,hE8⟩:∃ E8,E8={ E with now:=E.now.set k (gm s) }:=⟨_,rfl⟩
 rw [←hE8] at hd8
 have hkS:k<E.since.length:=by have:=hd8.ok.s;rw [hE8] at this;simp only at this;omega
 obtain ⟨l,hl⟩:∃ l,E8.since[k]? = some l:=⟨_,by rw [hE8];exact List.getElem?_eq_getElem hkS⟩
 obtain ⟨v,hv⟩:∃ v,P.svs[k]? = some v:=⟨_,List.getElem?_eq_getElem (show k<P.svs.length by rw [hd8.len];exact hk)⟩
 have hlm:l ∈ E8.since:=List.mem_of_getElem? hl
 have hl64:∀ x ∈ l,x.data.length=64:=fun x hx=>((hd8.ok.sl l hlm).1 x hx).1
 have hln:l.length≤1000:=Nat.le_trans (hd8.ok.sz l hlm) (by decide)
 have hnw:m<64:=by rw [HME.out];have:=hd8.ok.nx;rw [hE8] at this;exact this
 have hok':(∀ x ∈ lm m l ++ [(⟨m,gm s⟩:Wr)],x.data.length=64∧x.bit<64)∧((lm m l ++ [(⟨m,gm s⟩:Wr)]).map Wr.bit).Nodup:=by
  have h0:=hd8.ok.sl l hlm
  refine ⟨fun x hx=>?_,?_⟩
  ·rcases List.mem_append.1 hx with hx|hx
   ·exact h0.1 x (List.mem_filter.1 hx).1
   ·rw [List.mem_singleton.1 hx];exact ⟨hp64,hnw⟩
  ·rw [List.map_append,List.nodup_append]
   refine ⟨List.Nodup.sublist ((List.filter_sublist).map _) h0.2,by simp,fun a ha b' hb' e=>?_⟩
   obtain ⟨x,hx,rfl⟩:=List.mem_map.1 ha
   have:=(List.mem_filter.1 hx).2
   have h3:x.bit=m:=by rw [e];simpa using hb'
   rw [h3] at this
   simp at this
 have HOK:Hid _:=hok'
 have HD8:Hid (DAt W8 b n E8 P):=hd8
 have HA8:Hid (At W8 bw (⟨m,gm s⟩:Wr).vs 150):=A8
 have HM8:Hid (ae (DF P b) (DF P b) w W8):=hm8
 have HE8:Hid (E8={ E with now:=E.now.set k (gm s) }):=hE8
 have hvo:∀ q,Ob v q→q≠b∧q≠P.kb∧q≠P.nb∧q≠P.sb:=fun q hq=>hd8.ne2 v (List.mem_of_getElem? hv) q hq
 have hvw:¬Ob v bw:=fun e=>hnf (.inr (.inr (.inr (.inr ⟨v,List.mem_of_getElem? hv,e⟩))))
 clear hd8 A8 hm8 hE8 hlm hok'
 go_upto_region 9 with fail
 go_cut [8] (fun _ wx=>∃ P',DAt wx b n { E8 with since:=E8.since.set k (lm m l ++ [⟨m,gm s⟩]) } P'∧ae (DF P b) (DF P' b) w wx)
 case first =>
  have c2:W8.drew.cell? ⟨b,2,.none⟩=some (.slice (some ⟨P.sb,0,.none⟩) n n):=HD8.out.cells.2.2.1
  have HZ9:Hid (DAt W8.drew b n E8 P):=HD8.out.later ((Below.refl _ _).drew) (Nat.le_refl _)
  have HM9:Hid (ae (DF P b) (DF P b) w W8.drew):=HM8.out.trans (ae.of ((Below.refl _ _).drew) (Nat.le_refl _))
  have HA9:Hid (At W8.drew bw (⟨m,gm s⟩:Wr).vs 150):=HA8.out
  refine wp_region_held (S:=(fun w'=>w'.cell? ⟨b,2,.none⟩=some (.slice (some ⟨P.sb,0,.none⟩) n n)∧At w' bw (⟨m,gm s⟩:Wr).vs 150)) (by kernel_rfl) ?_
  show wpAnyH _ _ _ _ _ _ _ _ W8.drew
  obtain ⟨Z,hZ⟩:∃ Z,Z=W8.drew:=⟨_,rfl⟩
  rw [←hZ] at HZ9 HM9 HA9 c2 ⊢
  have HS9:Hid (Z.cell? ⟨b,2,.none⟩=some (.slice (some ⟨P.sb,0,.none⟩) n n)∧At Z bw (⟨m,gm s⟩:Wr).vs 150):=⟨c2,HA9.out⟩
  clear hZ c2 HD8 HM8 HA8
  refine wpG 0 (.pointer (some ⟨b,0,.none⟩)) HS9.out ?_
  refine wpG 1 (.pointer (some ⟨b,0,.none⟩)) HS9.out ?_
  refine wpG 2 (.pointer (some ⟨b,2,.none⟩)) HS9.out ?_
  refine wpT 3 (.slice (some ⟨P.sb,0,.none⟩) n n) (.inl ⟨rfl,fun w' hw'=>?_⟩) HS9.out ?_
  ·(have hc:=hw'.1;go_simp)
  refine wpG 4 (.int .i64 k) HS9.out ?_
  simp [Act.put]
  refine wpG 5 (.pointer (some ⟨b,0,.none⟩)) HS9.out ?_
  refine wpG 6 (.pointer (some ⟨b,0,.none⟩)) HS9.out ?_
  refine wpG 7 (.pointer (some ⟨b,2,.none⟩)) HS9.out ?_
  refine wpT 8 (.slice (some ⟨P.sb,0,.none⟩) n n) (.inl ⟨rfl,fun w' hw'=>?_⟩) HS9.out ?_
  ·(have hc:=hw'.1;go_simp)
  simp [Act.put]
  refine wpG 9 (.int .i64 k) HS9.out ?_
  refine wpG 10 (.pointer (some ⟨P.sb,k,.none⟩)) HS9.out ?_
  simp [Act.put]
  refine wpT 12 (.agg (⟨m,gm s⟩:Wr).vs.toArray) (.inl ⟨rfl,fun w' hw'=>?_⟩) HS9.out ?_
  ·exact jc (load_wr0 (x:=⟨m,gm s⟩) hw'.2 hp64) rfl
  simp [Act.put]
  as_aux_lemma =>
  refine wpA 11 (wpS ?_)
  have cv:Z.cell? ⟨P.sb,k,.none⟩=some v:=by rw [HZ9.out.s.cell];exact hv
  go_wp2_with fail
  clear cv
  refine ⟨HS9.out,?_⟩
  (try simp [Act.put])
  as_aux_lemma =>
  refine wpA 13 (wpS ?_)
  go_wp2_with fail
  refine (behind_any v l ⟨m,gm s⟩ Z (HZ9.out.own k l v hl hv) hl64 hp64 hln).mono ?_
  rintro e W9 ⟨v',rfl,ho9,hm9⟩
  have A9:=hm9.at HZ9.out.s (fun e=>(hvo _ e).2.2.2 rfl)
  have HB9:Hid (W9.cell? ⟨b,2,.none⟩=some (.slice (some ⟨P.sb,0,.none⟩) n n)∧At W9 bw (⟨m,gm s⟩:Wr).vs 150):=⟨hm9.cell HS9.out.1 (fun e=>(hvo _ e).1 rfl),hm9.at HS9.out.2 hvw⟩
  have hsbv:¬Ob v' P.sb:=hm9.not HZ9.out.s.lt (fun e=>(hvo _ e).2.2.2 rfl)
  have hbv:¬Ob v' b:=hm9.not HZ9.out.hd.lt (fun e=>(hvo _ e).1 rfl)
  refine ⟨HB9.out,?_⟩
  (try simp [Act.put])
  as_aux_lemma =>
  refine wpG 14 (.pointer (some ⟨P.sb,k,.none⟩)) HB9.out ?_
  (try simp [Act.put])
  refine wpA 15 ?_
  have hst:=At.store1 (T:=146) (i:=k) (v:=v') A9 (by kernel_rfl) (by rw [HZ9.out.len];exact hk) ho9.one.1 ho9.one.2
  have A10:=A9.setCell_same k v'
  have ho10:nk (W9.setCell ⟨P.sb,k,.none⟩ v') v' (lm m l ++ [⟨m,gm s⟩]):=ho9.kept fun q hq=>Below.heap_setCell _ _ _ _ (fun e=>hsbv (by have e':q=P.sb:=e;rw [←e'];exact hq))
  have hm10:ae (fun q=>q=P.sb∨Ob v q) (fun q=>q=P.sb∨Ob v' q) Z (W9.setCell ⟨P.sb,k,.none⟩ v') :=
   (hm9.mono (fun q hq=>.inr hq) (fun q hq=>hq.elim (fun e=>.inl (.inl e)) (fun e=>.inr (.inl e)))).set (.inl rfl) k v'
  obtain ⟨hd10,hf10⟩:=HZ9.out.sinc k v v' (lm m l ++ [⟨m,gm s⟩]) hv hm10 A10 ho10 HOK.out
  have hm11:ae (DF P b) (DF { P with svs:=P.svs.set k v' } b) w (W9.setCell ⟨P.sb,k,.none⟩ v'):=HM9.out.trans (hm10.mono (fun q hq=>hq.elim (fun e=>.inr (.inr (.inr (.inl e)))) (fun e=>.inr (.inr (.inr (.inr ⟨v,List.mem_of_getElem? hv,e⟩))))) (fun q hq=>(hf10 q hq).elim .inl (fun e=>.inr (.inr e))))
  have c2b:(W9.setCell ⟨P.sb,k,.none⟩ v').cell? ⟨b,2,.none⟩=some (.slice (some ⟨P.sb,0,.none⟩) n n):=hd10.cells.2.2.1
  have hbw:bw≠P.sb:=fun e=>hnf (by rw [e];exact .inr (.inr (.inr (.inl rfl))))
  have A11:=HB9.out.2.setCell_ne ⟨P.sb,k,.none⟩ hbw v'
  generalize W9.setCell ⟨P.sb,k,.none⟩ v'=Y9 at *
  refine ma hst rfl rfl rfl rfl ?_
  refine ⟨⟨c2b,A11⟩,?_⟩
  (try simp [Act.put])
  refine wpZ ?_
  (try simp [Act.put])
  go_wp2_with fail
  go_meet
  exact ⟨_,hd10,hm11⟩
 case rest =>
 obtain ⟨P',hd11,hm11⟩:=hcut
 obtain ⟨W11,rfl⟩:∃ W,W=wc:=⟨_,rfl⟩
 have hE8n:E8.next=m:=by rw [HE8.out];exact HME.out.symm
 have c3:W11.cell? ⟨b,3,.none⟩=some (.int .i64 m):=by rw [hd11.cells.2.2.2.1];simp only;rw [hE8n]
 have f3:=hd11.froz.1
 have hrem:(((m+1) % 64:Nat):Int)=((m:Int)+1) % 64:=by omega
 have A12:=hd11.hd.setCell_same 3 (.int .i64 ((((m+1) % 64:Nat)):Int))
 have hm12:ae (Is b) (Is b) W11 (W11.setCell ⟨b,3,.none⟩ (.int .i64 (((m:Int)+1) % 64))):=(ae.refl _ _).one_set 3 _
 have ok:=hd11.ok
 have HD12:Hid (DAt (W11.setCell ⟨b,3,.none⟩ (.int .i64 (((m:Int)+1) % 64))) b n { E8 with since:=E8.since.set k (lm m l ++ [⟨m,gm s⟩]),next:=(m+1) % 64 } P') :=
  hd11.head hm12 (by rw [←hrem];exact A12) ⟨ok.k,ok.m,ok.s,ok.n1,ok.n40,ok.kl,ok.ml,ok.sl,Nat.mod_lt _ (by decide),ok.lo,ok.hi⟩ rfl rfl rfl
 have HM12:Hid (ae (DF P b) (DF P' b) w (W11.setCell ⟨b,3,.none⟩ (.int .i64 (((m:Int)+1) % 64)))):=hm11.trans (hm12.mono (fun q hq=>.inl hq) (fun q hq=>.inl hq))
 have HFIN:Hid (putD (az D) ((k:Int)).toNat s={ E8 with since:=E8.since.set k (lm m l ++ [⟨m,gm s⟩]),next:=(m+1) % 64 }):=by
  show _=_
  rw [←HE.out,HE8.out,HME.out]
  have e1:E.since.getD k []=l:=by
   have:=hl
   rw [HE8.out] at this
   simp only at this
   simp [List.getD,this]
  unfold putD
  rw [show ((k:Int)).toNat=k from rfl,e1]
 have hm0:(0:Int)≤(m:Int):=by omega
 have hm63:(m:Int)≤63:=by omega
 clear hd11 hm11 A12 hm12 ok hrem HOK hl hv hl64 hln hvo hvw HD8 HM8 HA8 HME hE8n
 go_wp2
 go_ret
 exact ⟨by rw [HF.out,HSF.out];rfl,P',by rw [HW.out,HFIN.out];exact HD12.out,HM12.out⟩
end Go.Proofs.YtpkhdihoijkamaaGreatDoor.D
