/- Several texts of this seat in one: USyncW. No statement of the seat is proved here. -/
import Derived.Test.YtpkhdihoijkamaaGreatDoorWT
import Derived.Test.YtpkhdihoijkamaaGreatDoorZA59
import Derived.Test.YtpkhdihoijkamaaGreatDoorZA12
namespace Go.Proofs.YtpkhdihoijkamaaGreatDoor.U
open Go.ChangeShapes Go.WideShapes Go.ChangeAt Go.RowKit Go.Deep Go.Maps
open Go.Proofs.YtpkhdihoijkamaaGreatDoor.D
attribute [local go_sem] zc78
theorem syncG_says {M:TM} (hA:All M) (i:Nat) (hi:i<3) (hs:G.qz M.rs M.up M.e i=true) :
 (G.ah M.rs i).f≠M.e∧(G.ah (G.kz M.rs M.up M.e i) i).f=M.e∧(∀ k:Nat,k<8→G.ck k (G.ah (G.kz M.rs M.up M.e i) i)=fu M k)∧∀ k:Nat,k<3→k≠i→G.ah (G.kz M.rs M.up M.e i) k=G.ah M.rs k:=by
 have ok:G.GOK M.rs M.up:=hA.gi.ok
 have hg:=fun k (hk:k<3)=>G.adi ok M.e i hi k hk
 have h1:=hg i hi
 rw [if_pos ⟨hs,rfl⟩] at h1
 refine ⟨?_,by rw [h1],fun k hk=>?_,fun k hk hne=>?_⟩
 ·unfold G.qz at hs
  simp only [Bool.and_eq_true,decide_eq_true_eq] at hs
  have:=hs.2.2
  have e:(M.rs.getD ((i:Int)).toNat ⟨0,[]⟩).f=(G.ah M.rs i).f:=rfl
  rw [e] at this
  omega
 ·rw [h1,G.ck_sync hk,newest_is hk hA.ci]
 ·rw [hg k hk,if_neg (fun h=>hne h.2.symm)]
structure TwoG (w wr:World) (b8 b12:Nat) (rs rs2:List G.Rep) (up:List Bool):Prop where
 A8:G.At wr b8 (G.grV rs up) 51
 A12:G.At wr b12 (G.grV rs2 up) 51
 bw:Below w.heap.size w wr
 l8:w.heap.size≤b8
 ok:G.GOK rs up
 ok2:G.GOK rs2 up
theorem TwoG.later {w wr wx:World} {b8 b12:Nat} {rs rs2:List G.Rep} {up:List Bool} (h:TwoG w wr b8 b12 rs rs2 up) (hb:Below wr.heap.size wr wx):TwoG w wx b8 b12 rs rs2 up :=
 ⟨h.A8.later hb h.A8.lt,h.A12.later hb h.A12.lt,h.bw.trans (hb.mono h.bw.size),h.l8,h.ok,h.ok2⟩
structure InS (w wr:World) (b8 b12 b14 bl off:Nat) (rs rs2:List G.Rep) (up:List Bool) (best:G.Cel) (L:List Int):Prop where
 two:TwoG w wr b8 b12 rs rs2 up
 A6:G.At wr b8 (G.grV rs up) 51
 A8:G.At wr b14 best.vs 44
 row:∀ (j:Nat) (hj:j<L.length),wr.cell? ⟨bl,off+j,.none⟩=some (.int .i64 L[j])
 ok:G.GOK rs up
 n8:b14≠b8
 n12:b14≠b12
 nb:L.length≠0→bl≠b14
section
variable {w wr wx:World} {b8 b12 b14 bl off:Nat} {rs rs2:List G.Rep} {up:List Bool} {best:G.Cel} {L:List Int}
theorem InS.later (h:InS w wr b8 b12 b14 bl off rs rs2 up best L) (hb:Below wr.heap.size wr wx):InS w wx b8 b12 b14 bl off rs rs2 up best L :=
 ⟨h.two.later hb,h.A6.later hb h.A6.lt,h.A8.later hb h.A8.lt,fun j hj=>K.cell_later hb (h.row j hj),h.ok,h.n8,h.n12,h.nb⟩
theorem InS.put (h:InS w wr b8 b12 b14 bl off rs rs2 up best L) (hl:w.heap.size≤b14) (d:G.Cel):∃ Z,(Instr.storeAt 44 (.pointer (some ⟨b14,0,.none⟩)) (.agg #[.int .i64 d.e,.int .i64 d.n,.string d.d])).run Tryz.prog wr=.ok () Z∧InS w Z b8 b12 b14 bl off rs rs2 up d L:=by
 obtain ⟨Z,hst,hA,hne,hbl,hce⟩:=G.putCel (d:=d) h.A8
 have h8:=hne _ _ _ h.n8.symm h.two.A8
 refine ⟨Z,hst,⟨h8,hne _ _ _ h.n12.symm h.two.A12,hbl _ _ hl h.two.bw,h.two.l8,h.two.ok,h.two.ok2⟩,h8,hA,fun j hj=>?_,h.ok,h.n8,h.n12,h.nb⟩
 have hn:bl≠b14:=h.nb (by omega)
 rw [hce _ _ hn];exact h.row j hj
end
set_option maxRecDepth 100000 in
set_option maxHeartbeats 16000000 in
theorem topSync_walk (w:World) (hL:K.Laid w) (a:Option Addr) (n c:Nat) (l:List ig) (h:jh w a n l) (hop:jq l) (i:Int) (hwi:(Lit.int .i64 i).wf=true) :
 Calls Tryz.prog 14 #[.slice a n c,.int .i64 i] w fun r w'=>r=.returned (.bool true)∧Below w.heap.size w w':=by
 obtain rfl:=h.len
 have HL:Hid (K.Laid w):=hL
 have HA:Hid (jh w a l.length l∧jq l):=⟨h,hop⟩
 have HB0:Hid (Below w.heap.size w w):=Below.refl _ _
 clear h hop hL
 go_enter Tryz.func14,Tryz.ntmps14
 go_wp2_with fail
 refine (zy w HL.out).mono ?_
 rintro r W0 ⟨rfl,bw0⟩
 replace HB0:Hid (Below w.heap.size w W0):=HB0.out.trans (bw0.mono HB0.out.size)
 have HL0:Hid (K.Laid W0):=HL.out.later bw0
 have HA0:Hid (jh W0 a l.length l∧jq l):=⟨HA.out.1.later bw0,HA.out.2⟩
 clear bw0 HL HA
 go_wp2_with fail
 refine (aa5 W0 HL0.out a l.length c l HA0.out.1 HA0.out.2).mono ?_
 rintro r V ⟨bV,hres⟩
 rcases hres with ⟨hl,rfl⟩|⟨hl,t,p,D,rfl,hA⟩
 ·have HBW:Hid (Below w.heap.size w V):=HB0.out.trans (bV.mono HB0.out.size)
  clear bV hl HL0 HA0 HB0
  go_wp2
  go_ret
  exact ⟨rfl,HBW.out⟩
 have HPL:Hid (Plain W0 V t (gp (dh D) l) p l.length):=hA.plain
 generalize gp (dh D) l=M at *
 generalize p.b=b at *
 clear bV hl hA HA0 HL0
 by_cases hin:0≤i∧i<3
 case neg =>
  have HBW:Hid (Below w.heap.size w V):=HB0.out.trans (HPL.out.tg.bw.mono HB0.out.size)
  by_cases h0:i<0
  ·clear hin
   go_wp2
   go_ret
   exact ⟨rfl,HBW.out⟩
  ·have h3:3≤i:=by omega
   clear hin
   go_wp2
   go_ret
   exact ⟨rfl,HBW.out⟩
 obtain ⟨ii,rfl⟩:∃ ii:Nat,i=ii:=⟨i.toNat,by omega⟩
 have hi3:(ii:Int)<3:=hin.2
 have hi0:(0:Int)≤(ii:Int):=hin.1
 have HI3:Hid (ii<3):=by show ii<3;omega
 clear hin hwi
 go_wp2_with fail
 refine (aal HPL.out.tg.hd HPL.out.tg.len).mono ?_
 rintro r V1 ⟨rfl,b1⟩
 have HOK:Hid (G.GOK M.rs M.up):=HPL.out.al.gi.ok
 obtain ⟨V2,hst,A8,b2⟩:=G.newG HOK.out V1
 have HST:Hid ((Instr.storeAt 51 (.pointer (some ⟨V1.heap.size,0,.none⟩)) (.agg (G.grV M.rs M.up).toArray)).run Tryz.prog (V1.alloc (.cells G.z78.toArray 51))=.ok () V2):=hst
 obtain ⟨b8,hb8⟩:∃ b8,V1.heap.size=b8:=⟨_,rfl⟩
 have HB8:Hid (V1.heap.size=b8):=hb8
 have h8:¬p.F b8:=fun f=>by have:=HPL.out.tg.foot _ f;have:=b1.size;omega
 have H8:Hid (G.At V2 b8 (G.grV M.rs M.up) 51∧¬p.F b8∧w.heap.size≤b8):=⟨by rw [←hb8];exact A8,h8,by have:=HB0.out.size;have:=HPL.out.tg.bw.size;have:=b1.size;omega⟩
 replace HPL:Hid (Plain W0 V2 t M p l.length):=⟨(HPL.out.tg.later b1).later b2,HPL.out.ti,HPL.out.al⟩
 clear hst A8 b1 b2 hb8 h8
 go_upto_region 8 with (with_reducible refine cu HST.out rfl rfl ?_)
 clear HST
 rw [HB8.out]
 clear HB8
 go_wp2_with fail
 refine HPL.out.tg.ep.mono ?_
 rintro r W ⟨rfl,hW⟩
 obtain rfl:=hW.symm
 obtain ⟨e,he⟩:∃ e,M.e=e:=⟨_,rfl⟩
 obtain ⟨fl,hfl⟩:∃ fl,(G.ah M.rs ii).f=fl:=⟨_,rfl⟩
 have c8:V2.cell? ⟨b8,ii*25,.none⟩=some (.int .i64 fl):=by rw [←hfl];exact floor_cell H8.out.1 HOK.out ii HI3.out
 have HFL:Hid ((G.ah M.rs ii).f=fl):=hfl
 have HEE:Hid (M.e=e):=he
 rw [he]
 clear he hfl
 go_wp2_with fail
 refine (tsync_any HPL.out.tg (ii:Int)).mono ?_
 rintro r V3 ⟨rfl,hT,hm⟩
 have HT:Hid (aa W0 V3 t (qg M (ii:Int)).2 p):=hT
 have H83:Hid (G.At V3 b8 (G.grV M.rs M.up) 51):=hm.at H8.out.1 H8.out.2.1
 clear c8 hT hm
 have hin:(0:Int)≤(ii:Int)∧(ii:Int)<3:=⟨hi0,hi3⟩
 by_cases hs:G.qz M.rs M.up M.e (ii:Int)=true
 case neg =>
  have hsy:qg M (ii:Int)=(7,M):=by unfold qg;rw [if_pos hin,if_neg hs]
  rw [hsy] at HT ⊢
  rw [show ai ((7,M):Int × TM).1=.iface 96 (.int .i64 7) from rfl]
  have HT:Hid (aa W0 V3 t M p):=HT.out
  have HNU:Hid (∀ W,Calls Tryz.prog 29 #[.iface 96 (.int .i64 7)] W fun e w'=>e=.returned (.int .i64 7)∧w'=W):=fun W=>aa2 7 W
  clear hsy hs hin
  go_wp2_with fail
  refine (aal HT.out.hd HT.out.len).mono ?_
  rintro r V4 ⟨rfl,b4⟩
  obtain ⟨V5,hst,A12,b5⟩:=G.newG HOK.out V4
  have HST:Hid ((Instr.storeAt 51 (.pointer (some ⟨V4.heap.size,0,.none⟩)) (.agg (G.grV M.rs M.up).toArray)).run Tryz.prog (V4.alloc (.cells G.z78.toArray 51))=.ok () V5):=hst
  obtain ⟨b12,hb12⟩:∃ b12,V4.heap.size=b12:=⟨_,rfl⟩
  have HB12:Hid (V4.heap.size=b12):=hb12
  have HLA:Hid ((Instr.loadAt 51 (.pointer (some ⟨b12,0,.none⟩))).run Tryz.prog V5=.ok (.agg (G.grV M.rs M.up).toArray) V5):=G.gz (by rw [←hb12];exact A12) HOK.out.vlen
  have HLB:Hid ((Instr.loadAt 51 (.pointer (some ⟨b8,0,.none⟩))).run Tryz.prog V5=.ok (.agg (G.grV M.rs M.up).toArray) V5):=G.gz ((H83.out.later b4 H83.out.lt).later b5 (by have:=H83.out.lt;have:=b4.size;omega)) HOK.out.vlen
  have heq:∀ W,(binOp .eql 51 (.agg (G.grV M.rs M.up).toArray) (.agg (G.grV M.rs M.up).toArray)).run Tryz.prog W=.ok (.bool true) W:=fun W=>by rw [run_eql_struct,run_eq_gr HOK.out W];rfl
  have HE:Hid (Below w.heap.size w V5):=HB0.out.trans ((((HT.out.later b4).later b5).bw).mono HB0.out.size)
  clear hst A12 b4 b5 hb12
  go_upto_region 12 with (with_reducible refine cu HST.out rfl rfl ?_)
  clear HST
  rw [HB12.out]
  clear HB12
  go_wp2_with (with_reducible refine ak HLA.out rfl rfl ?_)
  refine (HNU.out _).mono ?_
  rintro r W ⟨rfl,hW⟩
  obtain rfl:=hW.symm
  go_wp2_with (first|with_reducible refine ak HLA.out rfl rfl ?_|with_reducible refine ak HLB.out rfl rfl ?_)
  go_ret
  exact ⟨rfl,HE.out⟩
 have hsy:qg M (ii:Int)=(0,{ M with rs:=G.kz M.rs M.up M.e (ii:Int) }):=by unfold qg;rw [if_pos hin,if_pos hs]
 have hsay:=syncG_says HPL.out.al ii HI3.out hs
 rw [hsy] at HT ⊢
 rw [show ai ((0,({ M with rs:=G.kz M.rs M.up M.e (ii:Int) }:TM)):Int × TM).1=.nilIface from rfl]
 obtain ⟨rs2,hrs2⟩:∃ rs2,G.kz M.rs M.up M.e (ii:Int)=rs2:=⟨_,rfl⟩
 have HOK2:Hid (G.GOK rs2 M.up):=by rw [←hrs2];exact G.syncG_ok HOK.out _ _
 have HT2:Hid (aa W0 V3 t { M with rs:=rs2 } p):=by rw [←hrs2];exact HT.out
 rw [hrs2] at hsay
 have HSAY:Hid (fl≠e∧(G.ah rs2 ii).f=e∧(∀ k:Nat,k<8→G.ck k (G.ah rs2 ii)=fu M k)∧∀ k:Nat,k<3→k≠ii→G.ah rs2 k=G.ah M.rs k):=by rw [←HFL.out,←HEE.out];exact hsay
 clear hsy hs hin hsay hrs2 HT
 go_wp2_with fail
 refine (aal HT2.out.hd HT2.out.len).mono ?_
 rintro r V4 ⟨rfl,b4⟩
 obtain ⟨V5,hst,A12,b5⟩:=G.newG HOK2.out V4
 have HST:Hid ((Instr.storeAt 51 (.pointer (some ⟨V4.heap.size,0,.none⟩)) (.agg (G.grV rs2 M.up).toArray)).run Tryz.prog (V4.alloc (.cells G.z78.toArray 51))=.ok () V5):=hst
 obtain ⟨b12,hb12⟩:∃ b12,V4.heap.size=b12:=⟨_,rfl⟩
 have HB12:Hid (V4.heap.size=b12):=hb12
 have HQ0:Hid (TwoG w V5 b8 b12 M.rs rs2 M.up):=⟨(H83.out.later b4 H83.out.lt).later b5 (by have:=H83.out.lt;have:=b4.size;omega),by rw [←hb12];exact A12,HB0.out.trans ((((HT2.out.later b4).later b5).bw).mono HB0.out.size),H8.out.2.2,HOK.out,HOK2.out⟩
 obtain ⟨nc,hnc⟩:∃ nc,fu M=nc:=⟨_,rfl⟩
 have HNC:Hid (∀ k,nc k=um k ((G.cz M.rs M.up e 3).map (G.ah M.rs))):=fun k=>by rw [←hnc,←HEE.out];rfl
 rw [hnc] at HSAY
 have c12:V5.cell? ⟨b12,ii*25,.none⟩=some (.int .i64 e):=by rw [←HSAY.out.2.1];exact floor_cell HQ0.out.A12 HOK2.out ii HI3.out
 have hne:(fl == e)=false:=by simp;exact HSAY.out.1
 generalize M.rs=rs at *
 generalize M.up=up at *
 clear hst A12 b4 b5 hb12 HT2 H83 H8 HPL HOK HOK2 HFL HEE hnc
 go_upto_region 12 with (with_reducible refine cu HST.out rfl rfl ?_)
 clear HST
 rw [HB12.out]
 clear HB12
 go_wp2
 clear c12 hne
 go_loopw [13] (fun v wr=>∃ q:Nat,q≤8∧v=.int .i64 q∧TwoG w wr b8 b12 rs rs2 up) (fun v _=>8 - (intOf v).toNat)
 case atStart=>exact ⟨0,by decide,rfl,HQ0.out⟩
 case round =>
  clear HQ0
  obtain ⟨q,hq8,rfl,hq⟩:=hrel
  have HQ0:Hid (TwoG w wr b8 b12 rs rs2 up):=hq
  clear hq
  by_cases hlt:q<8
  ·have hqi:(q:Int)≤7:=by omega
   have hq8':(q:Int)<8:=by omega
   have HQ8:Hid (q<8):=hlt
   obtain ⟨Z,hZ,z0,bZ,sZ⟩:=Go.Proofs.YtpkhdihoijkamaaGreatDoor.D.one wr (.cells #[.int .i64 0,.int .i64 0,.string ⟨#[]⟩] 44)
   obtain ⟨b14,hb14⟩:∃ b14,wr.heap.size=b14:=⟨_,rfl⟩
   have HB14:Hid (wr.heap.size=b14):=hb14
   have H14:Hid (G.At Z b14 G.zc.vs 44∧b14≠b8∧b14≠b12∧w.heap.size≤b14):=⟨by rw [←hb14];exact z0,by have:=HQ0.out.A8.lt;omega,by have:=HQ0.out.A12.lt;omega,by have:=HQ0.out.bw.size;omega⟩
   replace HQ0:Hid (TwoG w Z b8 b12 rs rs2 up):=HQ0.out.later bZ
   have HLB:Hid ((Instr.loadAt 51 (.pointer (some ⟨b8,0,.none⟩))).run Tryz.prog Z=.ok (.agg (G.grV rs up).toArray) Z):=G.gz HQ0.out.A8 HQ0.out.ok.vlen
   clear z0 bZ sZ hb14 hlt hq8
   go_upto_region 20 with fail
   rw [←hZ,HB14.out]
   clear hZ HB14
   go_wp2_with (with_reducible refine ak HLB.out rfl rfl ?_)
   refine (G.aar rs up e Z HQ0.out.ok).mono ?_
   rintro r V6 ⟨a2,n2,c2,rfl,ho,b6⟩
   obtain ⟨L,hLL⟩:∃ L,G.cz rs up e 3=L:=⟨_,rfl⟩
   rw [hLL] at ho
   have HLL:Hid (G.cz rs up e 3=L∧(∀ x ∈ L,∃ m:Nat,m<3∧x=m)∧L.length≤3):=⟨hLL,by rw [←hLL];exact G.za rs up e 3,by rw [←hLL];exact memL_le3 _ _ _⟩
   obtain ⟨a',n',c',e',hnu⟩:=ho.form
   simp only [Value.slice.injEq] at e'
   obtain ⟨rfl,rfl,rfl⟩:=e'
   have hnl:L.length=n2:=hnu.1
   subst hnl
   have hrow:∃ bl off,(L.length≠0→a2=some ⟨bl,off,.none⟩)∧(∀ (j:Nat) (hj:j<L.length),V6.cell? ⟨bl,off+j,.none⟩=some (.int .i64 L[j]))∧(L.length≠0→Z.heap.size≤bl):=by
    by_cases h0:L.length=0
    ·exact ⟨0,0,fun h=>absurd h0 h,fun j hj=>by omega,fun h=>absurd h0 h⟩
    ·obtain ⟨bl,off,ee,hc⟩:=hnu.2.2 h0
     refine ⟨bl,off,fun _=>ee,hc,fun _=>?_⟩
     have:=ho.block bl (by rw [ee];rfl)
     omega
   obtain ⟨bl,off,hal,hcell,hbl⟩:=hrow
   have HAL:Hid (L.length≠0→a2=some ⟨bl,off,.none⟩):=hal
   have h14l:=H14.out.1.lt
   have HS0:Hid (InS w V6 b8 b12 b14 bl off rs rs2 up G.zc L):=⟨HQ0.out.later b6,HQ0.out.A8.later b6 HQ0.out.A8.lt,H14.out.1.later b6 h14l,hcell,HQ0.out.ok,H14.out.2.1,H14.out.2.2.1,fun h0=>by have:=hbl h0;omega⟩
   have H14':Hid (w.heap.size≤b14):=H14.out.2.2.2
   clear ho b6 hLL hnu hal hcell hbl h14l H14 HQ0 HLB
   go_wp2_with fail
   go_loopw [16] (fun v wx=>∃ j:Nat,j≤L.length∧v=.int .i64 j∧InS w wx b8 b12 b14 bl off rs rs2 up (um q ((L.take j).map (G.ah rs))) L) (fun v _=>L.length - (intOf v).toNat)
   case atStart=>exact ⟨0,Nat.zero_le _,rfl,HS0.out⟩
   case round =>
    clear HS0
    obtain ⟨j,hjl,rfl,hq⟩:=hrel
    by_cases hlt:j<L.length
    ·have hki:(j:Int)<(L.length:Int):=by omega
     obtain rfl:=HAL.out (by omega)
     obtain ⟨m,hm3,hm⟩:=HLL.out.2.1 L[j] (List.getElem_mem hlt)
     have HNX:Hid (um q ((L.take (j+1)).map (G.ah rs))=wu q (um q ((L.take j).map (G.ah rs))) (G.ah rs (m:Int))):=by
      show _=_;unfold um;rw [List.take_succ_eq_append_getElem hlt,List.map_append,List.foldl_append,hm];rfl
     have hm3':(m:Int)<3:=by omega
     have hn3:L.length≤3:=HLL.out.2.2
     obtain ⟨bs,hbs⟩:∃ bs,um q ((L.take j).map (G.ah rs))=bs:=⟨_,rfl⟩
     rw [hbs] at hq HNX
     obtain ⟨cc,hcc⟩:∃ cc,G.ck q (G.ah rs (m:Int))=cc:=⟨_,rfl⟩
     have HSN:Hid (wu q bs (G.ah rs (m:Int))=if G.di cc bs=true then cc else bs):=by show _=_;unfold wu;rw [hcc]
     have HQ:Hid (InS w wr b8 b12 b14 bl off rs rs2 up bs L):=hq
     have HPA:Hid ((∃ hj:j<L.length,L[j]=(m:Int))∧m<3∧q<8∧G.ck q (G.ah rs (m:Int))=cc):=⟨⟨hlt,hm⟩,hm3,HQ8.out,hcc⟩
     clear hbs hq hjl hlt hm hm3 hcc
     go_upto_region 24 with fail
     refine ql (S:=fun w'=>InS w w' b8 b12 b14 bl off rs rs2 up bs L) (by kernel_rfl) ?_
     intro Z1 hV bV sV
     replace HQ:Hid (InS w Z1 b8 b12 b14 bl off rs rs2 up bs L):=HQ.out.later bV
     clear hV bV sV
     refine wpG 0 (.slice (some ⟨bl,off,.none⟩) L.length c2) HQ.out ?_
     refine wpG 1 (.int .i64 (j:Int)) HQ.out ?_
     refine wpG 2 (.pointer (some ⟨bl,off+j,.none⟩)) HQ.out ?_
     (try simp [Act.put])
     refine wpT 3 (.int .i64 (m:Int)) (.inl ⟨rfl,fun w' hw'=>?_⟩) HQ.out ?_
     ·obtain ⟨⟨hj,hm⟩,hm3,hk,hcc⟩:=HPA.out;have hc:=hw'.row j hj;rw [hm] at hc;go_simp
     refine wpG 4 (.int .i64 (q:Int)) HQ.out ?_
     refine wpG 5 (.pointer (some ⟨b8,0,.none⟩)) HQ.out ?_
     (try simp [Act.put])
     refine wpG 6 (.pointer (some ⟨b8,m*25,.none⟩)) HQ.out ?_
     refine wpG 7 (.pointer (some ⟨b8,m*25+1,.none⟩)) HQ.out ?_
     refine wpG 8 (.pointer (some ⟨b8,m*25+1+q*3,.none⟩)) HQ.out ?_
     (try simp [Act.put])
     refine wpT 9 (.agg #[.int .i64 cc.e,.int .i64 cc.n,.string cc.d]) (.inl ⟨rfl,fun w' hw'=>?_⟩) HQ.out ?_
     ·obtain ⟨⟨hj,hm⟩,hm3,hk,hcc⟩:=HPA.out;exact jc (by rw [←hcc];exact G.p8 (G.ab2 hw'.A6 hw'.ok m hm3 q hk)) rfl
     refine wpT 10 (.agg #[.int .i64 bs.e,.int .i64 bs.n,.string bs.d]) (.inl ⟨rfl,fun w' hw'=>?_⟩) HQ.out ?_
     ·obtain ⟨⟨hj,hm⟩,hm3,hk,hcc⟩:=HPA.out;exact jc (G.p8 hw'.A8.whole) rfl
     (try simp [Act.put])
     refine wpA 11 (wpS ?_)
     go_wp2_with fail
     refine (G.abv cc.e cc.n bs.e bs.n cc.d bs.d Z1).mono ?_
     rintro r Z2 ⟨rfl,b2⟩
     replace HQ:Hid (InS w Z2 b8 b12 b14 bl off rs rs2 up bs L):=HQ.out.later b2
     clear b2
     refine ⟨HQ.out,?_⟩
     (try simp [Act.put])
     refine wpZ ?_
     (try simp [Act.put])
     cases hnw:G.di cc bs
     case false =>
      have HV:Hid (um q ((L.take (j+1)).map (G.ah rs))=bs):=by show _=_;rw [HNX.out,HSN.out,hnw];rfl
      have HJ:Hid (j+1≤L.length):=by obtain ⟨⟨hj,_⟩,_⟩:=HPA.out;exact hj
      clear hnw HPA HNX HSN
      go_wp2
      exact ⟨⟨j+1,HJ.out,by go_num,by rw [HV.out];exact HQ.out⟩,by simp [intOf];have:=HJ.out;omega⟩
     case true =>
      have HV:Hid (um q ((L.take (j+1)).map (G.ah rs))=cc):=by show _=_;rw [HNX.out,HSN.out,hnw];rfl
      have HJ:Hid (j+1≤L.length):=by obtain ⟨⟨hj,_⟩,_⟩:=HPA.out;exact hj
      have hcr:Z2.cell? ⟨bl,off+j,.none⟩=some (.int .i64 (m:Int)):=by obtain ⟨⟨hj,hm⟩,_⟩:=HPA.out;have:=HQ.out.row j hj;rw [hm] at this;exact this
      have HLC:Hid ((Instr.loadAt 44 (.pointer (some ⟨b8,m*25+1+q*3,.none⟩))).run Tryz.prog Z2=.ok (.agg #[.int .i64 cc.e,.int .i64 cc.n,.string cc.d]) Z2):=by obtain ⟨_,hm3,hk,hcc⟩:=HPA.out;rw [←hcc];exact G.p8 (G.ab2 HQ.out.A6 HQ.out.ok m hm3 q hk)
      obtain ⟨Z3,hst,hq⟩:=HQ.out.put H14'.out cc
      have HST:Hid ((Instr.storeAt 44 (.pointer (some ⟨b14,0,.none⟩)) (.agg #[.int .i64 cc.e,.int .i64 cc.n,.string cc.d])).run Tryz.prog Z2=.ok () Z3):=hst
      have HQ3:Hid (InS w Z3 b8 b12 b14 bl off rs rs2 up cc L):=hq
      clear hnw HPA HNX HSN hst hq
      go_wp2_with (first|with_reducible refine ak HLC.out rfl rfl ?_|with_reducible refine cu HST.out rfl rfl ?_)
      exact ⟨⟨j+1,HJ.out,by go_num,by rw [HV.out];exact HQ3.out⟩,by simp [intOf];have:=HJ.out;omega⟩
    ·obtain rfl:j=L.length:=by omega
     rw [List.take_length] at hq
     have hki:¬((L.length:Int)<(L.length:Int)):=by omega
     obtain ⟨bs,hbs⟩:∃ bs,nc q=bs:=⟨_,rfl⟩
     have HQ:Hid (InS w wr b8 b12 b14 bl off rs rs2 up bs L):=by have:=HNC.out q;rw [HLL.out.1,hbs] at this;rw [this];exact hq
     have HCK:Hid (G.ck q (G.ah rs2 ii)=bs):=by rw [←hbs];exact HSAY.out.2.2.1 q HQ8.out
     have hneq:=neq_cel bs
     clear hq hjl hlt hbs
     go_upto_region 26 with fail
     refine ql (S:=fun w'=>InS w w' b8 b12 b14 bl off rs rs2 up bs L) (by kernel_rfl) ?_
     intro Z1 hV bV sV
     replace HQ:Hid (InS w Z1 b8 b12 b14 bl off rs rs2 up bs L):=HQ.out.later bV
     clear hV bV sV
     refine wpG 0 (.int .i64 (ii:Int)) HQ.out ?_
     refine wpG 1 (.int .i64 (q:Int)) HQ.out ?_
     refine wpG 2 (.pointer (some ⟨b12,0,.none⟩)) HQ.out ?_
     (try simp [Act.put])
     refine wpG 3 (.pointer (some ⟨b12,ii*25,.none⟩)) HQ.out ?_
     refine wpG 4 (.pointer (some ⟨b12,ii*25+1,.none⟩)) HQ.out ?_
     refine wpG 5 (.pointer (some ⟨b12,ii*25+1+q*3,.none⟩)) HQ.out ?_
     (try simp [Act.put])
     refine wpT 6 (.agg #[.int .i64 bs.e,.int .i64 bs.n,.string bs.d]) (.inl ⟨rfl,fun w' hw'=>?_⟩) HQ.out ?_
     ·exact jc (by have:=G.p8 (G.ab2 hw'.two.A12 hw'.two.ok2 ii HI3.out q HQ8.out);rw [HCK.out] at this;exact this) rfl
     refine wpT 7 (.agg #[.int .i64 bs.e,.int .i64 bs.n,.string bs.d]) (.inl ⟨rfl,fun w' hw'=>?_⟩) HQ.out ?_
     ·exact jc (G.p8 hw'.A8.whole) rfl
     refine wpG 8 (.bool false) HQ.out ?_
     (try simp [Act.put])
     refine wpZ ?_
     (try simp [Act.put])
     clear hneq
     go_wp2
     exact ⟨⟨q+1,HQ8.out,by go_num,HQ.out.two⟩,by simp [intOf];have:=HQ8.out;omega⟩
  ·obtain rfl:q=8:=by omega
   have hqi:¬(((8:Nat):Int)≤7):=by decide
   have HLA:Hid ((Instr.loadAt 51 (.pointer (some ⟨b12,0,.none⟩))).run Tryz.prog wr=.ok (.agg (G.grV rs2 up).toArray) wr):=G.gz HQ0.out.A12 HQ0.out.ok2.vlen
   have HLB:Hid ((Instr.loadAt 51 (.pointer (some ⟨b8,0,.none⟩))).run Tryz.prog wr=.ok (.agg (G.grV rs up).toArray) wr):=G.gz HQ0.out.A8 HQ0.out.ok.vlen
   have HUA:Hid ((Instr.loadAt 49 (.pointer (some ⟨b12,75,.none⟩))).run Tryz.prog wr=.ok (.agg (up.map Value.bool).toArray) wr):=load_up3 HQ0.out.A12 HQ0.out.ok2
   have HUB:Hid ((Instr.loadAt 49 (.pointer (some ⟨b8,75,.none⟩))).run Tryz.prog wr=.ok (.agg (up.map Value.bool).toArray) wr):=load_up3 HQ0.out.A8 HQ0.out.ok
   have heq:∀ W,(binOp .eql 49 (.agg (up.map Value.bool).toArray) (.agg (up.map Value.bool).toArray)).run Tryz.prog W=.ok (.bool true) W:=fun W=>by rw [run_eql_struct,show (10000:Nat)=9998+2 from rfl,run_eq_up3 9998 up HQ0.out.ok.upl W];rfl
   clear hq8 hlt
   go_wp2_with (first|with_reducible refine ak HLA.out rfl rfl ?_|with_reducible refine ak HLB.out rfl rfl ?_|with_reducible refine ak HUA.out rfl rfl ?_|with_reducible refine ak HUB.out rfl rfl ?_)
   refine (sameT_any HQ0.out.ok HQ0.out.ok2 ii HI3.out HSAY.out.2.2.2 wr).mono ?_
   rintro r V9 ⟨rfl,b9⟩
   have HE:Hid (Below w.heap.size w V9):=HQ0.out.bw.trans (b9.mono HQ0.out.bw.size)
   clear b9 heq
   go_wp2
   go_ret
   exact ⟨rfl,HE.out⟩
end Go.Proofs.YtpkhdihoijkamaaGreatDoor.U
