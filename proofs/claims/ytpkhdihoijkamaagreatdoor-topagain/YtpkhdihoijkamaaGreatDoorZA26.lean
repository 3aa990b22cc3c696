/- Several texts of this seat in one: GRead, GDlv, UModel, UReady, URow. No statement of the seat is proved here. -/
import Derived.Test.YtpkhdihoijkamaaGreatDoorWT
import Derived.Test.YtpkhdihoijkamaaGreatDoorZA25
import Derived.Test.YtpkhdihoijkamaaGreatDoorZA12
import Derived.Test.YtpkhdihoijkamaaGreatDoorZA15
import Derived.Test.YtpkhdihoijkamaaGreatDoorZA18
import Derived.Test.YtpkhdihoijkamaaGreatDoorZA07
import Derived.Test.YtpkhdihoijkamaaGreatDoorZA24
import Derived.Test.YtpkhdihoijkamaaGreatDoorZA01
set_option maxHeartbeats 8000000
set_option maxRecDepth 100000
namespace Go.Proofs.YtpkhdihoijkamaaGreatDoor.G
set_option maxRecDepth 100000
open Go.ChangeShapes Go.WideShapes Go.ChangeAt Go.RowKit Go.Deep
def readB (rs:List Rep) (up:List Bool) (e:Int):Bool:=decide (2≤(cz rs up e 3).length)
def ru (rs:List Rep) (up:List Bool) (e:Int) (k:Nat):Cel:=if readB rs up e=true then (mrg ((cz rs up e 3).map (ah rs))).getD k zc else zc
def laidR (k:Nat) (c:Cel) (rs:List Rep) (i:Int):List Rep:=rs.set i.toNat ⟨(ah rs i).f,(ah rs i).l.set k c⟩
def spread (k:Nat) (c:Cel) (rs:List Rep) (l:List Int):List Rep:=l.foldl (laidR k c) rs
def kg (rs:List Rep) (up:List Bool) (e:Int) (k:Nat):List Rep:=if readB rs up e=true then spread k (ru rs up e k) rs (cz rs up e 3) else rs
theorem ret_rra {P:Program} {fn:Func} {r s t:Tmp} {T U:TypeId} {tmps:Array Value} {w:World} {b b':Nat} {v u:Value} (h:fn.results=#[.cell r T,.cell s U,.tmp t]) (hr:tmps.getD r undef=.pointer (some ⟨b,0,.none⟩)) (hs:tmps.getD s undef=.pointer (some ⟨b',0,.none⟩))
 (law:(Instr.loadAt T (.pointer (some ⟨b,0,.none⟩))).run P w=.ok v w) (law2:(Instr.loadAt U (.pointer (some ⟨b',0,.none⟩))).run P w=.ok u w):(results fn tmps).run P w=.ok (.tuple #[v,u,tmps.getD t undef]) w:=by
 have law':(loadVar T ⟨b,0,.none⟩).run P w=.ok v w:=by simpa [Instr.loadAt,Instr.sureAddr,Sem.run_bind] using law
 have law2':(loadVar U ⟨b',0,.none⟩).run P w=.ok u w:=by simpa [Instr.loadAt,Instr.sureAddr,Sem.run_bind] using law2
 simp only [Array.getD_eq_getD_getElem?] at hr hs
 simp [results,h,hr,hs,asAddr,law',law2']
theorem setL_in:∀ (vs pre old post:List Value) (j:Nat),j+vs.length≤old.length→il (pre ++ (old ++ post)) (pre.length+j) vs=pre ++ (il old j vs ++ post)
 | [],_,_,_,_,_=>rfl
 | v :: r,pre,old,post,j,h=>by
   have hj:j<old.length:=by simp at h;omega
   have ih:=setL_in r pre (old.set j v) post (j+1) (by simp at h ⊢;omega)
   simp only [il]
   rw [show (pre ++ (old ++ post)).set (pre.length+j) v=pre ++ (old.set j v ++ post) by
    rw [List.set_append_right _ _ (by omega),show pre.length+j - pre.length=j by omega,List.set_append_left _ _ hj]]
   rw [show pre.length+j+1=pre.length+(j+1) by omega,ih]
theorem repV_in (f:Int) (l:List Cel) (k:Nat) (c:Cel):il (aj f l) (1+k*3) c.vs=aj f (l.set k c):=by
 have:∀ (vs:List Value) (x:Value) (l:List Value) (j:Nat),il (x :: l) (1+j) vs=x :: il l j vs:=by
  intro vs
  induction vs with
  | nil=>intros;rfl
  | cons v r ih =>
    intro x l j
    simp only [il]
    rw [show (x :: l).set (1+j) v=x :: l.set j v by rw [Nat.add_comm];rfl,show 1+j+1=1+(j+1) by omega,ih]
 show il (Value.int .i64 f :: bq l) (1+k*3) c.vs=_
 rw [this,cells8_set'];rfl
theorem grV_cel {rs:List Rep} {up:List Bool} (h:GOK rs up) (i:Nat) (hi:i<rs.length) (k:Nat) (hk:k<8) (c:Cel):il (grV rs up) (i*25+1+k*3) c.vs=grV (rs.set i ⟨rs[i].f,rs[i].l.set k c⟩) up:=by
 have e0:=rs_split hi
 have hl:(jd (rs.take i)).length=i*25:=by
  rw [yu _ (fun x hx=>h.ok x (List.mem_of_mem_take hx)),List.length_take];omega
 have ho:rs[i].vs.length=25:=(h.ok _ (List.getElem_mem hi)).vlen _
 have e1:grV rs up=jd (rs.take i) ++ (rs[i].vs ++ (jd (rs.drop (i+1)) ++ up.map Value.bool)):=by
  unfold grV
  conv=>lhs;rw [e0]
  rw [ab6]
  show _ ++ (rs[i].vs ++ jd _) ++ _=_
  simp
 have e2:grV (rs.set i ⟨rs[i].f,rs[i].l.set k c⟩) up=jd (rs.take i) ++ (aj rs[i].f (rs[i].l.set k c) ++ (jd (rs.drop (i+1)) ++ up.map Value.bool)):=by
  unfold grV
  rw [List.set_eq_take_append_cons_drop,if_pos hi,ab6]
  show _ ++ (aj rs[i].f (rs[i].l.set k c) ++ jd _) ++ _=_
  simp
 rw [e1,e2,←hl,Nat.add_assoc,setL_in c.vs _ _ _ (1+k*3) (by rw [ho];simp [Cel.vs];omega),show rs[i].vs=aj rs[i].f rs[i].l from rfl,repV_in]
theorem store_onecel {X:World} {b:Nat} {T:TypeId} {rs:List Rep} {up:List Bool} (hA:At X b (grV rs up) T) (h:GOK rs up) (i:Nat) (hi:i<rs.length) (k:Nat) (hk:k<8) (c:Cel) :
 (Instr.storeAt 44 (.pointer (some ⟨b,i*25+1+k*3,.none⟩)) (.agg #[.int .i64 c.e,.int .i64 c.n,.string c.d])).run Tryz.prog X=.ok () (X.setCells b (i*25+1+k*3) c.vs)∧At (X.setCells b (i*25+1+k*3) c.vs) b (grV (rs.set i ⟨rs[i].f,rs[i].l.set k c⟩) up) T:=by
 refine ⟨aax c hA (by rw [h.vlen];have:=h.len;omega),?_⟩
 have:=At.set c.vs (i*25+1+k*3) _ _ hA
 rwa [grV_cel h i hi k hk c] at this
theorem aao {rs:List Rep} {m:Nat} (h:m<rs.length):ah rs (m:Int)=rs[m]:=by unfold ah;simp [h]
theorem laidR_ok {rs:List Rep} {up:List Bool} (h:GOK rs up) (k:Nat) (c:Cel) (i:Int):GOK (laidR k c rs i) up:=by
 unfold laidR ah
 by_cases hi:i.toNat<rs.length
 ·refine h.set _ ?_
  rw [getD_in hi]
  exact (h.ok rs[i.toNat] (List.getElem_mem hi)).set k
 ·rw [List.set_eq_of_length_le (by omega)]
  exact h
theorem spread_ok {up:List Bool} (k:Nat) (c:Cel):∀ (l:List Int) (rs:List Rep),GOK rs up→GOK (spread k c rs l) up
 | [],_,h=>h
 | i :: l,rs,h=>spread_ok k c l (laidR k c rs i) (laidR_ok h k c i)
theorem spread_next (k:Nat) (c:Cel) (rs:List Rep) (l:List Int) (j:Nat) (hj:j<l.length):spread k c rs (l.take (j+1))=laidR k c (spread k c rs (l.take j)) l[j]:=by
 unfold spread
 rw [List.take_succ_eq_append_getElem hj,List.foldl_append]
 rfl
theorem gread_any (rs:List Rep) (up:List Bool) (e:Int) (k:Nat) (w:World) (h:GOK rs up) (hk:k<8) :
 Calls Tryz.prog 103 #[.agg (grV rs up).toArray,.int .i64 e,.int .i64 k] w fun r w'=>r=.returned (.tuple #[.agg (grV (kg rs up e k) up).toArray,.agg #[.int .i64 (ru rs up e k).e,.int .i64 (ru rs up e k).n,.string (ru rs up e k).d],.bool (readB rs up e)])∧Below w.heap.size w w':=by
 obtain ⟨X,hX,a0,a1,a2,bX,sX⟩:=three w (.cells (grV rs up).toArray 51) (.cells z78.toArray 51) (.cells #[.int .i64 0,.int .i64 0,.string ⟨#[]⟩] 44)
 have A0:At X w.heap.size (grV rs up) 51:=a0
 have A1:At X (w.heap.size+1) z78 51:=a1
 have A2:At X (w.heap.size+1+1) zc.vs 44:=a2
 have hz:=zero78
 clear a0 a1 a2
 go_enter Tryz.func103,Tryz.ntmps103
 go_upto_region 1 with fail
 rw [←hX]
 clear hX
 have HL:Hid ((Instr.loadAt 51 (.pointer (some ⟨w.heap.size,0,.none⟩))).run Tryz.prog X=.ok (.agg (grV rs up).toArray) X):=gz A0 h.vlen
 go_wp2_with (with_reducible refine ak HL.out rfl rfl ?_)
 clear HL
 refine (aar rs up e X h).mono ?_
 rintro r Z ⟨a,n,c,rfl,ho,hb1⟩
 obtain ⟨_,_,_,he',hn⟩:=ho.form
 simp only [Value.slice.injEq] at he'
 obtain ⟨rfl,rfl,rfl⟩:=he'
 have hbl:∀ b off,a=some ⟨b,off,.none⟩→X.heap.size+1≤b:=fun b off hb=>by subst hb;have:=ho.block b (by simp [Value.ownBlock]);omega
 replace A0:=A0.later hb1 A0.lt
 replace A1:=A1.later hb1 A1.lt
 replace A2:=A2.later hb1 A2.lt
 have bZ:=bX.trans (hb1.mono bX.size)
 clear hb1 bX
 have hmem:∀ x ∈ cz rs up e 3,∃ m:Nat,m<3∧x=m:=za rs up e 3
 obtain ⟨L,hL⟩:∃ L,cz rs up e 3=L:=⟨_,rfl⟩
 have HLe:Hid (cz rs up e 3=L):=hL
 have HM:Hid (∀ x ∈ L,∃ m:Nat,m<3∧x=m):=by rw [←hL];exact hmem
 have hl3:L.length≤3:=by rw [←hL];exact memL_len rs up e 3
 rw [hL] at hn ho
 clear hL hmem
 have hnl:n=L.length:=hn.1.symm
 subst hnl
 have HRW:Hid (0<L.length→∃ b off,a=some ⟨b,off,.none⟩∧X.heap.size+1≤b∧∀ (j:Nat) (hj:j<L.length),Z.cell? ⟨b,off+j,.none⟩=some (.int .i64 L[j])):=fun h0=>by
  obtain ⟨b,off,e1,e2⟩:=hn.2.2 (by omega)
  exact ⟨b,off,e1,hbl b off e1,e2⟩
 clear hn ho hbl
 go_wp2_with fail
 refine (ade k Z).mono ?_
 rintro r _ ⟨rfl,rfl⟩
 have hhb:hasB (k:Int)=true:=by simp [hasB];omega
 rw [hhb]
 go_wp2_with fail
 refine (abo _ _ c Z).mono ?_
 rintro r _ ⟨rfl,rfl⟩
 by_cases h2:2≤L.length
 case neg =>
  have hd:decide (2≤L.length)=false:=by simpa using h2
  have HB:Hid (readB rs up e=false):=by show _=_;unfold readB;rw [HLe.out,hd]
  have HG:Hid (kg rs up e k=rs):=by show _=_;simp [kg,HB.out]
  have HC:Hid (ru rs up e k=zc):=by show _=_;simp [ru,HB.out]
  clear HLe HRW HM h2
  have HL:Hid ((Instr.loadAt 51 (.pointer (some ⟨w.heap.size,0,.none⟩))).run Tryz.prog Z=.ok (.agg (grV rs up).toArray) Z):=gz A0 h.vlen
  have hst:=uf A1 rfl h.vlen (tu rs up)
  have B1:=At.set (grV rs up) 0 _ _ A1
  rw [ik _ _ (by rw [h.vlen];rfl)] at B1
  have B2:=At.set_ne (show w.heap.size+1+1≠w.heap.size+1 by omega) (grV rs up) 0 _ A2
  have b3:=below_setCells (show w.heap.size≤w.heap.size+1 by omega) (grV rs up) 0 _ bZ
  generalize World.setCells Z (w.heap.size+1) 0 (grV rs up)=Y at *
  have HS:Hid ((Instr.storeAt 51 (.pointer (some ⟨w.heap.size+1,0,.none⟩)) (.agg (grV rs up).toArray)).run Tryz.prog Z=.ok () Y):=hst
  have hst2:=aax (o:=0) (⟨0,0,⟨#[]⟩⟩:Cel) B2 (by decide)
  have D1:=At.set_ne (show w.heap.size+1≠w.heap.size+1+1 by omega) (⟨0,0,⟨#[]⟩⟩:Cel).vs 0 _ B1
  have D2:=At.set (⟨0,0,⟨#[]⟩⟩:Cel).vs 0 _ _ B2
  rw [ik _ _ (by rfl)] at D2
  have b4:=below_setCells (show w.heap.size≤w.heap.size+1+1 by omega) (⟨0,0,⟨#[]⟩⟩:Cel).vs 0 _ b3
  generalize World.setCells Y (w.heap.size+1+1) 0 (⟨0,0,⟨#[]⟩⟩:Cel).vs=Y2 at *
  have HS2:Hid ((Instr.storeAt 44 (.pointer (some ⟨w.heap.size+1+1,0,.none⟩)) (.agg #[.int .i64 (⟨0,0,⟨#[]⟩⟩:Cel).e,.int .i64 (⟨0,0,⟨#[]⟩⟩:Cel).n,.string (⟨0,0,⟨#[]⟩⟩:Cel).d])).run Tryz.prog Y=.ok () Y2):=hst2
  have HR:Hid ((Instr.loadAt 51 (.pointer (some ⟨w.heap.size+1,0,.none⟩))).run Tryz.prog Y2=.ok (.agg (grV rs up).toArray) Y2):=gz D1 h.vlen
  have HR2:Hid ((Instr.loadAt 44 (.pointer (some ⟨w.heap.size+1+1,0,.none⟩))).run Tryz.prog Y2=.ok (.agg #[.int .i64 (⟨0,0,⟨#[]⟩⟩:Cel).e,.int .i64 (⟨0,0,⟨#[]⟩⟩:Cel).n,.string (⟨0,0,⟨#[]⟩⟩:Cel).d]) Y2):=p8 D2.whole
  clear hst hst2 A0 A1 A2 B1 B2 D1 D2
  go_wp2_with (first|(with_reducible refine ak HL.out rfl rfl ?_)|(with_reducible refine cu HS.out rfl rfl ?_)|(with_reducible refine cu HS2.out rfl rfl ?_))
  refine bodyPost_ret (ret_rra Tryz.results103 rfl rfl HR.out HR2.out) rfl ⟨by rw [HB.out,HG.out,HC.out];first|rfl|simp,b4⟩
 have hd:decide (2≤L.length)=true:=by simpa using h2
 have HB:Hid (readB rs up e=true):=by show _=_;unfold readB;rw [HLe.out,hd]
 obtain ⟨b,off,rfl,hbX,hrow⟩:=HRW.out (by omega)
 have HRR:Hid (∀ (j:Nat) (hj:j<L.length),Z.cell? ⟨b,off+j,.none⟩=some (.int .i64 L[j])):=hrow
 clear hrow HRW
 have HL:Hid ((Instr.loadAt 51 (.pointer (some ⟨w.heap.size,0,.none⟩))).run Tryz.prog Z=.ok (.agg (grV rs up).toArray) Z):=gz A0 h.vlen
 go_wp2_with (with_reducible refine ak HL.out rfl rfl ?_)
 clear HL
 refine (gmerge_any rs up b off c L Z h hl3 (by omega) HM.out HRR.out).mono ?_
 rintro r Z2 ⟨rfl,hb1⟩
 replace A0:=A0.later hb1 A0.lt
 replace A1:=A1.later hb1 A1.lt
 replace A2:=A2.later hb1 A2.lt
 replace bZ:=bZ.trans (hb1.mono bZ.size)
 have HRS:Hid (∀ (j:Nat) (hj:j<L.length),Z2.cell? ⟨b,off+j,.none⟩=some (.int .i64 L[j])):=fun j hj=>cell_later hb1 (HRR.out j hj)
 clear hb1 HRR
 obtain ⟨M,HMe⟩:∃ M,Hid (mrg (L.map (ah rs))=M):=⟨_,rfl⟩
 have hok:fo M:=by rw [←HMe.out];exact yj _
 rw [HMe.out]
 have hkM:k<M.length:=by rw [hok.len];exact hk
 obtain ⟨ce,hce⟩:∃ ce,M[k]=ce:=⟨_,rfl⟩
 have HC:Hid (ru rs up e k=ce):=by show _=_;unfold ru;rw [if_pos HB.out,HLe.out,HMe.out,←hce];simp [hkM]
 have HG:Hid (kg rs up e k=spread k ce rs L):=by show _=_;unfold kg;rw [if_pos HB.out,HLe.out,HC.out]
 have HI:Hid ((Instr.index 45 (.agg (bq M).toArray) (.int .i64 k)).run Tryz.prog Z2=.ok (.agg #[.int .i64 ce.e,.int .i64 ce.n,.string ce.d]) Z2):=by rw [←hce];exact run_index8 Z2 M k hok hkM
 go_wp2_with (with_reducible refine wl_index HI.out rfl rfl rfl ?_)
 clear HI HMe hce
 have hcb:=A0.lt
 have hcb1:=A1.lt
 have hcb2:=A2.lt
 have hal:Below Z2.heap.size Z2 (Z2.alloc (.cells #[.int .i64 ce.e,.int .i64 ce.n,.string ce.d] 44)):=(Below.refl _ _).alloc (Nat.le_refl _) _
 have AC:At (Z2.alloc (.cells #[.int .i64 ce.e,.int .i64 ce.n,.string ce.d] 44)) Z2.heap.size ce.vs 44:=heap_alloc_new Z2 _
 replace A0:=A0.later hal A0.lt
 replace A1:=A1.later hal A1.lt
 replace A2:=A2.later hal A2.lt
 replace bZ:=bZ.trans (hal.mono bZ.size)
 have HRT:Hid (∀ (j:Nat) (hj:j<L.length),(Z2.alloc (.cells #[.int .i64 ce.e,.int .i64 ce.n,.string ce.d] 44)).cell? ⟨b,off+j,.none⟩=some (.int .i64 L[j])):=fun j hj=>cell_later hal (HRS.out j hj)
 clear hal HRS
 generalize Z2.alloc (.cells #[.int .i64 ce.e,.int .i64 ce.n,.string ce.d] 44)=Z3 at *
 obtain ⟨cb,hcbe⟩:∃ cb,Z2.heap.size=cb:=⟨_,rfl⟩
 rw [hcbe] at AC hcb hcb1 hcb2 ⊢
 clear hcbe
 go_loopw [33] (fun i wr=>∃ j:Nat,j≤L.length∧i=.int .i64 j∧At wr w.heap.size (grV (spread k ce rs (L.take j)) up) 51∧At wr (w.heap.size+1) z78 51∧At wr (w.heap.size+1+1) zc.vs 44∧At wr cb ce.vs 44∧Below w.heap.size w wr∧∀ (j:Nat) (hj:j<L.length),wr.cell? ⟨b,off+j,.none⟩=some (.int .i64 L[j])) (fun i _=>L.length - (intOf i).toNat)
 case atStart=>exact ⟨0,Nat.zero_le _,rfl,A0,A1,A2,AC,bZ,HRT.out⟩
 case round =>
  clear A0 A1 A2 AC bZ HRT
  obtain ⟨j,hj,rfl,A0,A1,A2,AC,bZ,hrow⟩:=hrel
  have hGk:=spread_ok k ce (L.take j) rs h
  by_cases hlt:j<L.length
  ·have hki:(j:Int)<(L.length:Int):=by omega
   obtain ⟨m,hm3,hm⟩:=HM.out L[j] (List.getElem_mem hlt)
   have c1:=hrow j hlt
   rw [hm] at c1
   have HRW:Hid (∀ (j:Nat) (hj:j<L.length),wr.cell? ⟨b,off+j,.none⟩=some (.int .i64 L[j])):=hrow
   have HNX:Hid (spread k ce rs (L.take (j+1))=laidR k ce (spread k ce rs (L.take j)) (m:Int)):=by show _=_;rw [spread_next k ce rs L j hlt,hm]
   clear hrow hm
   have hm3':(m:Int)<3:=by omega
   have hk8':(k:Int)<8:=by omega
   obtain ⟨rk,hrk⟩:∃ rk,spread k ce rs (L.take j)=rk:=⟨_,rfl⟩
   rw [hrk] at A0 hGk HNX
   clear hrk
   have hml:m<rk.length:=by rw [hGk.len];exact hm3
   go_wp2_with fail
   refine wp_region_held (S:=fun w'=>At w' cb ce.vs 44) (by kernel_rfl) ?_
   have HS:Hid (At wr.drew cb ce.vs 44):=AC
   obtain ⟨hst,B0⟩:=store_onecel (X:=wr.drew) A0 hGk m hml k hk ce
   have B1:=At.set_ne (show w.heap.size+1≠w.heap.size by omega) ce.vs (m*25+1+k*3) wr.drew A1
   have B2:=At.set_ne (show w.heap.size+1+1≠w.heap.size by omega) ce.vs (m*25+1+k*3) wr.drew A2
   have BC:=At.set_ne (show cb≠w.heap.size by omega) ce.vs (m*25+1+k*3) wr.drew AC
   have b3:=below_setCells (Nat.le_refl w.heap.size) ce.vs (m*25+1+k*3) _ bZ.drew
   have hrow2:∀ (j:Nat) (hj:j<L.length),(wr.drew.setCells w.heap.size (m*25+1+k*3) ce.vs).cell? ⟨b,off+j,.none⟩=some (.int .i64 L[j]):=fun j hj=>by
    rw [World.cell?_of_block (w:=wr.drew) (aco (show b≠w.heap.size by omega) _ _ _)]
    exact HRW.out j hj
   refine wpG 0 (.int .i64 m) HS.out ?_
   refine wpG 1 (.int .i64 k) HS.out ?_
   refine wpT 2 (.agg #[.int .i64 ce.e,.int .i64 ce.n,.string ce.d]) (.inl ⟨rfl,fun w' hw'=>?_⟩) HS.out ?_
   ·exact jc (p8 (At.whole hw')) rfl
   refine wpG 3 (.pointer (some ⟨w.heap.size,0,.none⟩)) HS.out ?_
   refine wpG 4 (.pointer (some ⟨w.heap.size,m*25,.none⟩)) HS.out ?_
   refine wpG 5 (.pointer (some ⟨w.heap.size,m*25+1,.none⟩)) HS.out ?_
   refine wpG 6 (.pointer (some ⟨w.heap.size,m*25+1+k*3,.none⟩)) HS.out ?_
   simp [Act.put]
   refine wpA 7 ?_
   refine ma hst rfl rfl rfl rfl ⟨BC,?_⟩
   generalize wr.drew.setCells w.heap.size (m*25+1+k*3) ce.vs=W2 at *
   have HR2:Hid (∀ (j:Nat) (hj:j<L.length),W2.cell? ⟨b,off+j,.none⟩=some (.int .i64 L[j])):=hrow2
   clear hrow2 hst HRW A0 A1 A2 AC bZ HS c1
   refine wpZ ?_
   (try simp [Act.put])
   go_wp2_with fail
   refine ⟨⟨j+1,by omega,by go_num,?_,B1,B2,BC,b3,HR2.out⟩,by simp [intOf];omega⟩
   rw [HNX.out]
   unfold laidR
   rw [show ((m:Int)).toNat=m from rfl,aao hml]
   exact B0
  ·obtain rfl:j=L.length:=by omega
   rw [List.take_length] at A0 hGk
   obtain ⟨rs',hrs⟩:∃ rs',spread k ce rs L=rs':=⟨_,rfl⟩
   rw [hrs] at A0 hGk HG
   clear hrs hrow HM
   go_wp2_with fail
   refine wp_region_held (S:=fun w'=>At w' w.heap.size (grV rs' up) 51∧At w' cb ce.vs 44) (by kernel_rfl) ?_
   have HS:Hid (At wr.drew w.heap.size (grV rs' up) 51∧At wr.drew cb ce.vs 44):=⟨A0,AC⟩
   have hst:=uf (X:=wr.drew) A1 rfl hGk.vlen (tu rs' up)
   have B0:=At.set_ne (show w.heap.size≠w.heap.size+1 by omega) (grV rs' up) 0 wr.drew A0
   have BC:=At.set_ne (show cb≠w.heap.size+1 by omega) (grV rs' up) 0 wr.drew AC
   have B1:=At.set (grV rs' up) 0 wr.drew _ A1
   rw [ik _ _ (by rw [hGk.vlen];rfl)] at B1
   have B2:=At.set_ne (show w.heap.size+1+1≠w.heap.size+1 by omega) (grV rs' up) 0 wr.drew A2
   have b3:=below_setCells (show w.heap.size≤w.heap.size+1 by omega) (grV rs' up) 0 _ bZ.drew
   refine wpT 0 (.agg (grV rs' up).toArray) (.inl ⟨rfl,fun w' hw'=>?_⟩) HS.out ?_
   ·exact jc (gz hw'.1 hGk.vlen) rfl
   refine wpT 1 (.agg #[.int .i64 ce.e,.int .i64 ce.n,.string ce.d]) (.inl ⟨rfl,fun w' hw'=>?_⟩) HS.out ?_
   ·exact jc (p8 hw'.2.whole) rfl
   simp [Act.put]
   refine wpA 2 ?_
   refine ma hst rfl rfl rfl rfl ⟨⟨B0,BC⟩,?_⟩
   generalize wr.drew.setCells (w.heap.size+1) 0 (grV rs' up)=Y at *
   have hst2:=aax (o:=0) ce B2 (by decide)
   have D0:=At.set_ne (show w.heap.size≠w.heap.size+1+1 by omega) ce.vs 0 _ B0
   have DC:=At.set_ne (show cb≠w.heap.size+1+1 by omega) ce.vs 0 _ BC
   have D1:=At.set_ne (show w.heap.size+1≠w.heap.size+1+1 by omega) ce.vs 0 _ B1
   have D2:=At.set ce.vs 0 _ _ B2
   rw [ik _ _ (by rfl)] at D2
   have b4:=below_setCells (show w.heap.size≤w.heap.size+1+1 by omega) ce.vs 0 _ b3
   refine wpA 3 ?_
   refine ma hst2 rfl rfl rfl rfl ⟨⟨D0,DC⟩,?_⟩
   generalize Y.setCells (w.heap.size+1+1) 0 ce.vs=Y2 at *
   refine wpT 4 (.bool true) (.inl ⟨rfl,fun w' hw'=>?_⟩) ⟨D0,DC⟩ ?_
   ·go_simp
   refine wpZ ?_
   (try simp [Act.put])
   have HR:Hid ((Instr.loadAt 51 (.pointer (some ⟨w.heap.size+1,0,.none⟩))).run Tryz.prog Y2=.ok (.agg (grV rs' up).toArray) Y2):=gz D1 hGk.vlen
   have HR2:Hid ((Instr.loadAt 44 (.pointer (some ⟨w.heap.size+1+1,0,.none⟩))).run Tryz.prog Y2=.ok (.agg #[.int .i64 ce.e,.int .i64 ce.n,.string ce.d]) Y2):=p8 D2.whole
   clear A0 A1 A2 AC B0 B1 B2 BC D0 D1 D2 DC hst hst2 HS
   go_wp2
   refine bodyPost_ret (ret_rra Tryz.results103 rfl rfl HR.out HR2.out) rfl ⟨by rw [HB.out,HG.out,HC.out];first|rfl|simp,b4⟩
set_option maxRecDepth 100000
open Go.Proofs.YtpkhdihoijkamaaGreatDoor.D
def delB (rs:List Rep) (up:List Bool) (dst:Int) (c:Cel):Bool:=upB up dst && (c.e == (ah rs dst).f)
def ny (rs:List Rep) (up:List Bool) (dst:Int) (k:Nat) (c:Cel):List Rep:=if upB up dst=true then rs.set dst.toNat ⟨(ah rs dst).f,ib (ah rs dst).f (ah rs dst).l k c⟩ else rs
theorem deliver_any (rs:List Rep) (up:List Bool) (dst:Int) (k:Nat) (c:Cel) (tag:Int) (w:World) (hG:GOK rs up) (hk:k<8) :
 Calls Tryz.prog 57 #[.agg (grV rs up).toArray,.agg (msgV dst k c tag).toArray] w fun r w'=>r=.returned (.tuple #[.agg (grV (ny rs up dst k c) up).toArray,.bool (delB rs up dst c)])∧Below w.heap.size w w':=by
 cases hu:upB up dst with
 | false =>
   have e1:ny rs up dst k c=rs:=by simp [ny,hu]
   have e2:delB rs up dst c=false:=by simp [delB,hu]
   rw [e1,e2]
   exact deliver_no rs up dst k c tag w hG hu
 | true =>
   obtain ⟨m,rfl,hm⟩:=upB_in hu
   have hml:m<rs.length:=by rw [hG.len];exact hm
   have e1:ny rs up m k c=rs.set m ⟨rs[m].f,ib rs[m].f rs[m].l k c⟩:=by simp [ny,hu,aao hml]
   have e2:delB rs up m c=(c.e == rs[m].f):=by simp [delB,hu,aao hml]
   rw [e1,e2]
   exact deliver_yes rs up m k c tag w hG hml hk hu
theorem newG {rs:List Rep} {up:List Bool} (h:GOK rs up) (W:World):∃ Y,(Instr.storeAt 51 (.pointer (some ⟨W.heap.size,0,.none⟩)) (.agg (grV rs up).toArray)).run Tryz.prog (W.alloc (.cells z78.toArray 51))=.ok () Y∧At Y W.heap.size (grV rs up) 51∧Below W.heap.size W Y:=by
 have A:At (W.alloc (.cells z78.toArray 51)) W.heap.size z78 51:=heap_alloc_new W _
 have A2:=At.set (grV rs up) 0 _ _ A
 rw [ik _ _ (by rw [h.vlen];rfl)] at A2
 exact ⟨_,uf A rfl h.vlen (tu rs up),A2,below_setCells (Nat.le_refl _) _ 0 _ ((Below.refl _ _).alloc (Nat.le_refl _) _)⟩
end Go.Proofs.YtpkhdihoijkamaaGreatDoor.G
namespace Go.Proofs.YtpkhdihoijkamaaGreatDoor.U
open Go.ChangeShapes Go.WideShapes Go.ChangeAt Go.RowKit Go.Deep Go.Maps
open Go.Proofs.YtpkhdihoijkamaaGreatDoor.D
def mi (M:TM):Bool:=decide (2≤(G.cz (G.d9 M.rs M.up M.e) M.up M.e 3).length)
def dx (M:TM):TM:=if mi M=true then { M with rs:=G.d9 M.rs M.up M.e } else M
def uw (M:TM):Int:=if mi M=true then 0 else 7
def j5 (M:TM) (e:Int) (s:KS):TM:={ M with e:=(Go.Proofs.YtpkhdihoijkamaaGreatDoor.D.uu M.D 10 M.e M.s e s).1,s:=(Go.Proofs.YtpkhdihoijkamaaGreatDoor.D.uu M.D 10 M.e M.s e s).2,D:=keepD M.D 10 e s }
def vo (M:TM) (e:Int) (s:KS):Int:=keepF M.D 10 e s
def wiped (M:TM):TM:={ M with nm:=0,W:=.map [] }
def ve (M:TM) (s:KS):Int × TM:=if mi M=true then (vo (dx M) M.e s,j5 (dx M) M.e s) else (7,M)
def uk (M:TM) (s:KS):Int × TM :=
 if M.e=1000000 then (6,M)
 else if vo M (M.e+1) M.s=0 then ve (wiped (j5 M (M.e+1) M.s)) s
 else (vo M (M.e+1) M.s,j5 M (M.e+1) M.s)
def gq (M:TM) (s:KS):Int × TM:=if mi M=true then uk (dx M) s else (7,M)
structure CmD where
 op:Int
 who:Int
 key:Int
 new:Int
 ty:Int
 at':Int
 st:Bool
 da:ByteArray
 wa:ByteArray
def CmD.f (c:CmD):Int:=K.cmdF c.op c.who c.key c.new c.ty c.at' c.st c.da c.wa
def CmD.o (c:CmD) (s:KS):Out:=doF s.g s.t s.hd s.y s.l c.op c.who c.key c.new c.ty c.st
def outS (o:Out):KS:=⟨o.g,o.t,o.h,o.y,o.l⟩
def vz (L:Nat→List Int) (x:Int × Int):Nat→List Int:=if 1≤x.1∧x.1≤4 then upd L (x.1.toNat - 1) (ni (L (x.1.toNat - 1)) x.2) else L
def ay (L:Nat→List Int) (l:List (Int × Int)):Nat→List Int:=l.foldl vz L
def ol (M:TM) (o:Out):Int × TM:=if xk M.s.t M.s.hd M.s.l o.t o.h o.l then gq M (outS o) else (vo M M.e (outS o),j5 M M.e (outS o))
def lu (M:TM) (c:CmD):Int × TM :=
 if (c.o M.s).f=0 then
  if (ol M (c.o M.s)).1=0 then (0,{ (ol M (c.o M.s)).2 with L:=ay (ol M (c.o M.s)).2.L (c.o M.s).tl })
  else ol M (c.o M.s)
 else ((c.o M.s).f,M)
def mayC (M:TM) (c:CmD):Bool:=jy M.s.t M.s.hd M.s.l c.who (c.op != 7)
def ji (M:TM) (c:CmD):Int:=if mayC M c=true then uw M else 4
def ic (M:TM) (c:CmD):TM:=if mayC M c=true then dx M else M
def gotB (M:TM):Bool:=G.readB M.rs M.up M.e
def gotC (M:TM) (k:Nat):G.Cel:=G.ru M.rs M.up M.e k
def gotM (M:TM) (k:Nat):TM:={ M with rs:=G.kg M.rs M.up M.e k }
def ll:ByteArray:=⟨#[]⟩
def j4 (M:TM) (c:CmD):ByteArray × Int × TM :=
 if ji M c=0 then
  if gotB (ic M c)=true then ((gotC (ic M c) c.at'.toNat).d,0,gotM (ic M c) c.at'.toNat) else (ll,7,ic M c)
 else (ll,ji M c,ic M c)
def fullB (M:TM):Bool:=decide (6≤Maps.size M.W) || decide (40<M.fly.length+3)
def rq (M:TM) (c:CmD):TM :=
 { M with nm:=M.nm+1,dn:=M.dn ++ [false],W:=M.W.put (.int .i64 ((M.dn.length:Int)+1)) (.lit (.int .u64 0)),
          fly:=M.fly ++ [⟨0,c.at'.toNat,⟨M.e,M.nm+1,c.da⟩,(M.dn.length:Int)+1⟩,⟨1,c.at'.toNat,⟨M.e,M.nm+1,c.da⟩,(M.dn.length:Int)+1⟩,⟨2,c.at'.toNat,⟨M.e,M.nm+1,c.da⟩,(M.dn.length:Int)+1⟩] }
def qp (M:TM) (c:CmD):Int × Int × TM:=if fullB M=true then (0,6,M) else ((M.dn.length:Int)+1,0,rq M c)
def qb (M:TM) (c:CmD):Int × Int × TM:=if ji M c=0 then qp (ic M c) c else (0,ji M c,ic M c)
def fliesTo (M:TM) (k:Nat):Bool:=M.fly.any fun m=>m.k == k && m.c.e == M.e
def zt (M:TM) (c:CmD):Int × Int × TM :=
 if gotB M=true∧fliesTo M c.at'.toNat=false then
  if (gotC M c.at'.toNat).d=c.wa then
   if fullB M=true then (0,6,M) else ((M.dn.length:Int)+1,0,{ rq M c with rs:=(gotM M c.at'.toNat).rs })
  else (0,9,M)
 else (0,7,M)
def jg (M:TM) (c:CmD):Int × Int × TM:=if ji M c=0 then zt (ic M c) c else (0,ji M c,ic M c)
structure Ans where
 data:ByteArray
 tag:Int
 what:Int
 f:Int
def kr (M:TM) (c:CmD):Ans × TM :=
 if c.op=7 then (⟨(j4 M c).1,0,0,(j4 M c).2.1⟩,(j4 M c).2.2)
 else if c.op=8 then (⟨ll,(qb M c).1,0,(qb M c).2.1⟩,(qb M c).2.2)
 else if c.op=9 then (⟨ll,(jg M c).1,0,(jg M c).2.1⟩,(jg M c).2.2)
 else (⟨ll,0,0,(lu M c).1⟩,(lu M c).2)
def CmD.j (c:CmD):Nat:=c.who.toNat - 1
def iw (M:TM) (c:CmD):TM:={ M with L:=upd M.L c.j (M.L c.j).tail }
def av (M:TM) (c:CmD):Ans × TM :=
 if c.f=0 then
  if jf (M.L c.j)=0 then kr (iw M c) c else (⟨ll,0,jf (M.L c.j),0⟩,iw M c)
 else (⟨ll,0,0,c.f⟩,M)
def bitOr (x:Int) (d:Int):Int:=bits .or .u64 x (2 ^ d.toNat)
def xe (M:TM) (tag:Int):Int:=match M.W.atKey (.int .i64 tag) (.lit (.int .u64 0)) with
 | .lit (.int _ a)=>a
 | _=>0
def ones (x:Int):Nat:=(if x % 2=1 then 1 else 0)+(if x / 2 % 2=1 then 1 else 0)+(if x / 4 % 2=1 then 1 else 0)
def qw (M:TM) (m:ed):TM :=
 if Maps.has M.W (.int .i64 m.tag)=true then
  if ones (bitOr (xe M m.tag) m.dst)<2 then { M with W:=M.W.put (.int .i64 m.tag) (.lit (.int .u64 (bitOr (xe M m.tag) m.dst))) }
  else { M with W:=M.W.del (.int .i64 m.tag),dn:=M.dn.set (m.tag.toNat - 1) true }
 else M
def ww (M:TM) (i:Nat):TM:={ M with fly:=M.fly.eraseIdx i }
def q8 (M:TM) (m:ed) (i:Nat) (stays:Bool):TM:=if stays=true then { M with rs:=G.ny M.rs M.up m.dst m.k m.c } else ww { M with rs:=G.ny M.rs M.up m.dst m.k m.c } i
def l7 (M:TM) (i:Int) (stays:Bool):Bool × Int × TM :=
 match (if 0≤i then M.fly[i.toNat]? else none) with
 | none=>(false,8,M)
 | some m=>if G.delB M.rs M.up m.dst m.c=true then (true,0,qw (q8 M m i.toNat stays) m) else (false,0,q8 M m i.toNat stays)
def ug (M:TM) (i:Int):Int × TM:=if 0≤i∧i<M.fly.length then (0,ww M i.toNat) else (8,M)
def upM (M:TM) (i:Int) (b:Bool):Int × TM:=if 0≤i∧i<3 then (0,{ M with up:=M.up.set i.toNat b }) else (8,M)
def qg (M:TM) (i:Int):Int × TM :=
 if 0≤i∧i<3 then if G.qz M.rs M.up M.e i=true then (0,{ M with rs:=G.kz M.rs M.up M.e i }) else (7,M)
 else (8,M)
def bf (s:KS):KS:=if s.y=true then { s with g:=0 } else KS.none
def iq (M:TM):Int × TM:=if (gq M (bf M.s)).1=0 then (0,{ (gq M (bf M.s)).2 with L:=xm }) else gq M (bf M.s)
attribute [local go_sem] zc78
theorem ql {P:Program} {S:World→Prop} {Q:Exit→Act→World→Prop} {id:Nat} {ops:Array Oper} {a:Act} {w:World} (hm:P.follows .mixedOrders=true)
 (h:∀ V,w.drew=V→Below w.heap.size w V→V.heap.size=w.heap.size→wpAnyH P .any ops Q S ops.size (Array.replicate ops.size false) a V):(Code.region id ops true).wp P Q a w :=
 wp_region_held (S:=S) hm (h w.drew rfl (Below.refl _ _).drew rfl)
theorem bu {w X Y:World} (h:Below w.heap.size w X) (b:Below X.heap.size X Y):Below w.heap.size w Y:=h.trans (b.mono h.size)
theorem aa.ep {w0 w:World} {t:Nat} {M:TM} {p:TP} (h:aa w0 w t M p):Calls Tryz.prog 19 #[.pointer (some ⟨t,0,.none⟩)] w fun r w'=>r=.returned (.int .i64 M.e)∧w'=w:=epochT_any h.hd h.kk.kp
theorem fenG_okU {rs:List G.Rep} {up:List Bool} (h:G.GOK rs up) (e:Int):G.GOK (G.d9 rs up e) up:=by unfold G.d9;split;exact G.foldR_ok _ _ _ h;exact h
theorem ready_any {w0 w:World} {t:Nat} {M:TM} {p:TP} (h:aa w0 w t M p) :
 Calls Tryz.prog 98 #[.pointer (some ⟨t,0,.none⟩)] w fun r w'=>r=.returned (ai (uw M))∧aa w0 w' t (dx M) p∧ae p.F p.F w w':=by
 have HT:Hid (aa w0 w t M p):=h
 have HF:Hid (∀ W,Calls Tryz.prog 124 #[.agg (G.grV M.rs M.up).toArray,.int .i64 M.e] W fun r w'=>r=.returned (.tuple #[.agg (G.grV (G.d9 M.rs M.up M.e) M.up).toArray,.bool (mi M)])∧Below W.heap.size W w') :=
  fun W=>G.gfence_any M.rs M.up M.e W h.ok (by have:=h.kk.kp.e1;omega) (by have:=h.kk.kp.e9;omega)
 clear h
 go_enter Tryz.func98,Tryz.ntmps98
 go_upto_region 1 with fail
 refine ql (S:=fun w'=>aa w0 w' t M p) (by kernel_rfl) ?_
 intro V hV bV sV
 have HB:Hid (Below w.heap.size w V):=bV
 have HS:Hid (aa w0 V t M p):=HT.out.later HB.out
 clear hV bV sV
 refine wpG 0 (.pointer (some ⟨t,0,.none⟩)) HS.out ?_
 refine wpG 1 (.pointer (some ⟨t,0,.none⟩)) HS.out ?_
 refine wpG 2 (.pointer (some ⟨t,1,.none⟩)) HS.out ?_
 (try simp [Act.put])
 refine wpT 3 (.agg (G.grV M.rs M.up).toArray) (.inl ⟨rfl,fun w' hw'=>?_⟩) HS.out ?_
 ·exact jc hw'.loadG rfl
 refine wpG 4 (.pointer (some ⟨t,0,.none⟩)) HS.out ?_
 (try simp [Act.put])
 refine' joinW1 (F:=fun Y c=>Below w.heap.size w Y∧aa w0 Y t M p∧G.At Y c G.z78 51∧w.heap.size≤c) (h1:=?main) (h2:=?rest)
 case main =>
  intro HJ
  refine wpB 5 10 ?_ ?_
  ·refine wpS ?_
   go_wp2_with fail
   refine HS.out.ep.mono ?_
   rintro r W ⟨rfl,hW⟩
   obtain rfl:=hW.symm
   refine ⟨HS.out,?_⟩
   (try simp [Act.put])
   refine wpB 6 10 ?_ ?_
   ·refine wpS ?_
    go_wp2_with fail
    refine (HF.out _).mono ?_
    rintro r W1 ⟨rfl,b1⟩
    replace HB:Hid (Below w.heap.size w W1):=bu HB.out b1
    replace HS:Hid (aa w0 W1 t M p):=HT.out.later HB.out
    clear b1
    refine ⟨HS.out,?_⟩
    (try simp [Act.put])
    refine wpG 7 (.tuple #[.agg (G.grV (G.d9 M.rs M.up M.e) M.up).toArray,.bool (mi M)]) HS.out ?_
    refine wpG 8 (.agg (G.grV (G.d9 M.rs M.up M.e) M.up).toArray) HS.out ?_
    refine wpG 9 (.bool (mi M)) HS.out ?_
    (try simp [Act.put])
    refine wpA 10 ?_
    obtain ⟨Y,hY,a5,b5,s5⟩:=Go.Proofs.YtpkhdihoijkamaaGreatDoor.D.one W1 (.cells G.z78.toArray 51)
    refine wpS ?_
    go_wp2_with fail
    rw [←hY]
    clear hY
    have HA:Hid (G.At Y W1.heap.size G.z78 51):=a5
    have HL:Hid (w.heap.size≤W1.heap.size):=HB.out.size
    obtain ⟨c,hc⟩:∃ c,W1.heap.size=c:=⟨_,rfl⟩
    replace HB:Hid (Below w.heap.size w Y):=bu HB.out b5
    rw [hc] at HA HL ⊢
    replace HS:Hid (aa w0 Y t M p):=HT.out.later HB.out
    clear a5 b5 s5 hc
    refine ⟨HS.out,?_⟩
    (try simp [Act.put])
    exact HJ.out Y c ⟨HB.out,HS.out,HA.out,HL.out⟩
   ·obtain ⟨Y,hY,a5,b5,s5⟩:=Go.Proofs.YtpkhdihoijkamaaGreatDoor.D.one V (.cells G.z78.toArray 51)
    refine wpS ?_
    go_wp2_with fail
    rw [←hY]
    clear hY
    have HA:Hid (G.At Y V.heap.size G.z78 51):=a5
    have HL:Hid (w.heap.size≤V.heap.size):=HB.out.size
    obtain ⟨c,hc⟩:∃ c,V.heap.size=c:=⟨_,rfl⟩
    replace HB:Hid (Below w.heap.size w Y):=bu HB.out b5
    rw [hc] at HA HL ⊢
    replace HS:Hid (aa w0 Y t M p):=HT.out.later HB.out
    clear a5 b5 s5 hc
    refine ⟨HS.out,?_⟩
    (try simp [Act.put])
    refine wpA 6 (wpS ?_)
    go_wp2_with fail
    refine (HF.out _).mono ?_
    rintro r W1 ⟨rfl,b1⟩
    replace HA:Hid (G.At W1 c G.z78 51):=HA.out.later b1 HA.out.lt
    replace HB:Hid (Below w.heap.size w W1):=bu HB.out b1
    replace HS:Hid (aa w0 W1 t M p):=HT.out.later HB.out
    clear b1 Y
    rename World=>Y
    refine ⟨HS.out,?_⟩
    (try simp [Act.put])
    refine wpG 7 (.tuple #[.agg (G.grV (G.d9 M.rs M.up M.e) M.up).toArray,.bool (mi M)]) HS.out ?_
    refine wpG 8 (.agg (G.grV (G.d9 M.rs M.up M.e) M.up).toArray) HS.out ?_
    refine wpG 9 (.bool (mi M)) HS.out ?_
    (try simp [Act.put])
    exact HJ.out Y c ⟨HB.out,HS.out,HA.out,HL.out⟩
  ·obtain ⟨Y,hY,a5,b5,s5⟩:=Go.Proofs.YtpkhdihoijkamaaGreatDoor.D.one V (.cells G.z78.toArray 51)
   refine wpS ?_
   go_wp2_with fail
   rw [←hY]
   clear hY
   have HA:Hid (G.At Y V.heap.size G.z78 51):=a5
   have HL:Hid (w.heap.size≤V.heap.size):=HB.out.size
   obtain ⟨c,hc⟩:∃ c,V.heap.size=c:=⟨_,rfl⟩
   replace HB:Hid (Below w.heap.size w Y):=bu HB.out b5
   rw [hc] at HA HL ⊢
   replace HS:Hid (aa w0 Y t M p):=HT.out.later HB.out
   clear a5 b5 s5 hc
   refine ⟨HS.out,?_⟩
   (try simp [Act.put])
   refine wpA 5 (wpS ?_)
   go_wp2_with fail
   refine HS.out.ep.mono ?_
   rintro r W ⟨rfl,hW⟩
   obtain rfl:=hW.symm
   refine ⟨HS.out,?_⟩
   (try simp [Act.put])
   refine wpA 6 (wpS ?_)
   go_wp2_with fail
   refine (HF.out _).mono ?_
   rintro r W1 ⟨rfl,b1⟩
   replace HA:Hid (G.At W1 c G.z78 51):=HA.out.later b1 HA.out.lt
   replace HB:Hid (Below w.heap.size w W1):=bu HB.out b1
   replace HS:Hid (aa w0 W1 t M p):=HT.out.later HB.out
   clear b1 Y
   rename World=>Y
   refine ⟨HS.out,?_⟩
   (try simp [Act.put])
   refine wpG 7 (.tuple #[.agg (G.grV (G.d9 M.rs M.up M.e) M.up).toArray,.bool (mi M)]) HS.out ?_
   refine wpG 8 (.agg (G.grV (G.d9 M.rs M.up M.e) M.up).toArray) HS.out ?_
   refine wpG 9 (.bool (mi M)) HS.out ?_
   (try simp [Act.put])
   exact HJ.out Y c ⟨HB.out,HS.out,HA.out,HL.out⟩
 case rest =>
  clear HB HS
  intro Y c ⟨hb,hs,ha,hl⟩
  have HB:Hid (Below w.heap.size w Y):=hb
  have HS:Hid (aa w0 Y t M p):=hs
  have HA:Hid (G.At Y c G.z78 51):=ha
  have HL:Hid (w.heap.size≤c):=hl
  clear hb hs ha hl
  refine wpA 11 ?_
  have hG:=fenG_okU HT.out.ok M.e
  have hst:=G.uf HA.out rfl hG.vlen (G.tu (G.d9 M.rs M.up M.e) M.up)
  have A6:=G.At.set (G.grV (G.d9 M.rs M.up M.e) M.up) 0 _ _ HA.out
  rw [G.ik _ _ (by rw [hG.vlen];rfl)] at A6
  have HB2:Hid (Below w.heap.size w (Y.setCells c 0 (G.grV (G.d9 M.rs M.up M.e) M.up))):=below_setCells HL.out (G.grV (G.d9 M.rs M.up M.e) M.up) 0 _ HB.out
  generalize Y.setCells c 0 (G.grV (G.d9 M.rs M.up M.e) M.up)=Z at *
  have HS2:Hid (aa w0 Z t M p):=HT.out.later HB2.out
  refine Go.Proofs.YtpkhdihoijkamaaGreatDoor.D.ma hst rfl rfl rfl rfl ⟨HS2.out,?_⟩
  clear hst HA HB HS
  refine wpG 12 (.bool (mi M)) HS2.out ?_
  (try simp [Act.put])
  refine wpZ ?_
  (try simp [Act.put])
  have HLD:Hid ((Instr.loadAt 51 (.pointer (some ⟨c,0,.none⟩))).run Tryz.prog Z=.ok (.agg (G.grV (G.d9 M.rs M.up M.e) M.up).toArray) Z):=G.gz A6 hG.vlen
  clear A6
  by_cases hr:mi M=true
  ·have HR:Hid (dx M={ M with rs:=G.d9 M.rs M.up M.e }):=by show _=_;unfold dx;rw [if_pos hr]
   have HE:Hid (uw M=0):=by show _=_;unfold uw;rw [if_pos hr]
   rw [hr]
   obtain ⟨V,hV,tV,mV,_⟩:=HS2.out.putG hG
   have HV:Hid ((Instr.storeAt 51 (.pointer (some ⟨t,1,.none⟩)) (.agg (G.grV (G.d9 M.rs M.up M.e) M.up).toArray)).run Tryz.prog Z=.ok () V):=hV
   have HTV:Hid (aa w0 V t { M with rs:=G.d9 M.rs M.up M.e } p):=tV
   have HMV:Hid (ae p.F p.F w V):=(ae.of HB2.out (Nat.le_refl _)).trans mV
   clear hr hG hV tV mV
   go_wp2_with (first|with_reducible refine ak HLD.out rfl rfl ?_|with_reducible refine cu HV.out rfl rfl ?_)
   go_ret
   exact ⟨by rw [HE.out];rfl,by rw [HR.out];exact HTV.out,HMV.out⟩
  ·have HR:Hid (dx M=M):=by show _=_;unfold dx;rw [if_neg hr]
   have HE:Hid (uw M=7):=by show _=_;unfold uw;rw [if_neg hr]
   rw [show mi M=false by simpa using hr]
   have HMV:Hid (ae p.F p.F w Z):=ae.of HB2.out (Nat.le_refl _)
   clear hr hG
   go_wp2
   go_ret
   exact ⟨by rw [HE.out];rfl,by rw [HR.out];exact HS2.out,HMV.out⟩
end Go.Proofs.YtpkhdihoijkamaaGreatDoor.U
namespace Go.Proofs.YtpkhdihoijkamaaGreatDoor.U
open Go.ChangeShapes Go.WideShapes Go.ChangeAt Go.RowKit Go.Deep Go.Maps
open Go.Proofs.YtpkhdihoijkamaaGreatDoor.D
structure iy (w:World) (p:TP) (a:Option Addr) (s:KS):Prop where
 row:Go.Proofs.YtpkhdihoijkamaaGreatDoor.Row w a s.l.length s.l
 off:∀ q,a=some q→s.l.length≠0→¬p.F q.block
 len:s.l.length≤1000000
section
variable {w0 w w' w1:World} {t:Nat} {M M':TM} {p p':TP} {a:Option Addr} {c:Nat} {s:KS}
theorem iy.moved (h:iy w p a s) (hm:ae p.F p'.F w w'):iy w' p' a s :=
 ⟨xc h.row hm (fun q e h0=>h.off q e h0),fun q e h0=>hm.not (yo h.row h0 q e) (h.off q e h0),h.len⟩
theorem iy.later (h:iy w p a s) (hb:Below w.heap.size w w'):iy w' p a s:=h.moved (ae.of hb (Nat.le_refl _))
theorem iy.none (w:World) (p:TP):iy w p .none KS.none:=⟨⟨rfl,by decide,fun h=>absurd rfl h⟩,fun _ _ h=>absurd rfl h,by decide⟩
theorem iy.gen (h:iy w p a s) (g:Int):iy w p a { s with g:=g }:=⟨h.row,h.off,h.len⟩
theorem aa.rowNew (h:aa w0 w t M p) (hr:Go.Proofs.YtpkhdihoijkamaaGreatDoor.Row w' a s.l.length s.l) (hq:∀ q,a=some q→s.l.length≠0→w.heap.size≤q.block) (hl:s.l.length≤1000000):iy w' p a s :=
 ⟨hr,fun q e h0 f=>by have:=hq q e h0;have:=h.foot _ f;omega,hl⟩
theorem aa.st (h:aa w0 w t M p):Calls Tryz.prog 18 #[.pointer (some ⟨t,0,.none⟩)] w fun r w'=>∃ a' c',r=.returned (.agg (M.s.vs a' c').toArray)∧iy w' p a' M.s∧(∀ q,a'=some q→w.heap.size≤q.block)∧Below w.heap.size w w' :=
 (stateT_any h.hd h.kk.kp).mono fun _ _ ⟨a',c',h1,h2,h3,h4⟩=>⟨a',c',h1,h.rowNew h2 (fun q e _=>(h3 q e).1) (by have:=KS.len h.kk.kp.ok;omega),fun q e=>(h3 q e).1,h4⟩
theorem aa.kp_any (h:aa w0 w t M p) (hL:K.Laid w0) (e2:Int) (s2:KS) (a2:Option Addr) (c2:Nat) (hr:iy w p a2 s2) :
 Calls Tryz.prog 99 #[.pointer (some ⟨p.k,0,.none⟩),.int .i64 e2,.agg (s2.vs a2 c2).toArray] w fun r w'=>r=.returned (ai (vo M e2 s2))∧∃ p',aa w0 w' t (j5 M e2 s2) p'∧p'.k=p.k∧p'.b=p.b∧ae p.F p'.F w w':=by
 refine (keepT_any h.kk (hL.later h.bw) e2 s2 a2 c2 hr.row (fun q e h0 f=>hr.off q e h0 ?_) hr.len).mono ?_
 ·show p.col _≠0
  rw [h.cK _ (.inl f)];decide
 ·rintro r w' ⟨h1,P',a3,c3,hk,hm⟩
  have:=h.keep hk hm
  exact ⟨h1,_,this.1,rfl,rfl,this.2⟩
end
theorem wpList_clearM {ops:Array Oper} {rest:List Oper} {o:Oper} {a:Act} {w:World} {Q:Exit→Act→World→Prop} (hg:o.guard=.none) (x:Operand) (hop:o.op=.call { callee:=.builtin .clear,args:=#[x],argTypes:=#[104] })
 {m:Nat} {W:DataW Unit} (hm:a.eval x=.map (some m)) (h:qo w m W) (hK:∀ w',qo w' m (.map [])→ae (Is m) (Is m) w w'→wpList Tryz.prog ops Q rest (a.put o.dst (.tuple #[])) w'):wpList Tryz.prog ops Q (o :: rest) a w:=by
 refine wpList_plain hg fun K' hK'=>?_
 obtain ⟨w',hrun,r1,r2⟩:=clear_map h o.type
 unfold Oper.wp
 simp [execOp,hop,resolve,invoke,builtin,hm,hrun,Result.andThen]
 exact hK' _ _ (hK w' r1 r2)
end Go.Proofs.YtpkhdihoijkamaaGreatDoor.U
