/- Several texts of this seat in one: GFence, GDel, TLow, TCat. No statement of the seat is proved here. -/
import Derived.Test.YtpkhdihoijkamaaGreatDoorWT
import Derived.Test.YtpkhdihoijkamaaGreatDoorZA14
import Derived.Test.YtpkhdihoijkamaaGreatDoorZA13
import Derived.Lib.AppendZeros
import Derived.Laws.AppendOwnNone
set_option maxHeartbeats 8000000
namespace Go.Proofs.YtpkhdihoijkamaaGreatDoor.G
set_option maxRecDepth 100000
open Go.ChangeShapes Go.WideShapes Go.ChangeAt Go.RowKit Go.Deep
def fenR (e:Int) (r:Rep):Rep:=⟨fenF r.f e,r.l⟩
def updR (e:Int) (rs:List Rep) (i:Int):List Rep:=rs.set i.toNat (fenR e (rs.getD i.toNat ⟨0,[]⟩))
def xh (e:Int) (rs:List Rep) (l:List Int):List Rep:=l.foldl (updR e) rs
def d9 (rs:List Rep) (up:List Bool) (e:Int):List Rep:=if 2≤(cz rs up (e - 1) 3).length then xh e rs (cz rs up (e - 1) 3) else rs
theorem wpOp_step {P:Program} {ops:Array Oper} {i:Nat} {o:Oper} {a:Act} {w:World} {Q:Exit→Act→World→Prop} {K:Act→World→Prop} (ho:ops[i]? = some o) (hg:o.guard=.none) (h:o.wp P a w K Q):wpOp P ops Q i K a w:=by
 unfold wpOp
 rw [ho]
 simp only [Region.wanted,hg,if_true]
 exact .inl h
theorem gfence_no (rs':List Rep) (up:List Bool) (e:Int) (w:World) (hG:GOK rs' up) (he:0≤e) (he9:e≤1000000000) (hno:(cz rs' up (e - 1) 3).length<2) :
 Calls Tryz.prog 124 #[.agg (grV rs' up).toArray,.int .i64 e] w fun r w'=>r=.returned (.tuple #[.agg (grV (d9 rs' up e) up).toArray,.bool (decide (2≤(cz (d9 rs' up e) up e 3).length))])∧Below w.heap.size w w':=by
 have HF:Hid (d9 rs' up e=rs'):=by show _=_;unfold d9;rw [if_neg (by omega)]
 obtain ⟨X,hX,a0,a1,bX,sX⟩:=two w (.cells (grV rs' up).toArray 51) (.cells z78.toArray 51)
 have A0:At X w.heap.size (grV rs' up) 51:=a0
 have A1:At X (w.heap.size+1) z78 51:=a1
 have hz:=zero78
 clear a0 a1
 go_enter Tryz.func124,Tryz.ntmps124
 go_upto_region 1 with fail
 rw [←hX]
 clear hX
 have HL:Hid ((Instr.loadAt 51 (.pointer (some ⟨w.heap.size,0,.none⟩))).run Tryz.prog X=.ok (.agg (grV rs' up).toArray) X):=gz A0 hG.vlen
 go_wp2_with (with_reducible refine ak HL.out rfl rfl ?_)
 clear HL
 refine (aar rs' up (e - 1) X hG).mono ?_
 rintro r Z ⟨a,n,c,rfl,ho,hb1⟩
 obtain ⟨_,_,_,he',hn⟩:=ho.form
 simp only [Value.slice.injEq] at he'
 obtain ⟨rfl,rfl,rfl⟩:=he'
 have hn2:n<2:=by rw [←hn.1];exact hno
 replace A0:=A0.later hb1 A0.lt
 replace A1:=A1.later hb1 A1.lt
 have bZ:=bX.trans (hb1.mono bX.size)
 clear hb1 bX ho hn
 go_wp2_with fail
 refine (abo a n c Z).mono ?_
 rintro r _ ⟨rfl,rfl⟩
 have hd:decide (2≤n)=false:=by simp;omega
 go_wp2_with fail
 refine wp_region_held (S:=fun w'=>At w' w.heap.size (grV rs' up) 51∧Below w.heap.size w w'∧∃ cs,At w' (w.heap.size+1) cs 51∧cs.length=78) (by kernel_rfl) ?_
 have HS:Hid (At Z.drew w.heap.size (grV rs' up) 51∧Below w.heap.size w Z.drew∧∃ cs,At Z.drew (w.heap.size+1) cs 51∧cs.length=78):=⟨A0,bZ.drew,_,A1,rfl⟩
 refine wpT 0 (.agg (grV rs' up).toArray) (.inl ⟨rfl,fun w' hw'=>?_⟩) HS.out ?_
 ·exact jc (gz hw'.1 hG.vlen) rfl
 refine wpT 1 (.agg (grV rs' up).toArray) (.inl ⟨rfl,fun w' hw'=>?_⟩) HS.out ?_
 ·exact jc (gz hw'.1 hG.vlen) rfl
 refine wpG 2 (.int .i64 e) HS.out ?_
 simp [Act.put]
 refine wpA 3 (wpS ?_)
 go_wp2_with fail
 refine (aar rs' up e _ hG).mono ?_
 rintro r Z1 ⟨a9,n9,c9,rfl,ho9,hb9⟩
 obtain ⟨_,_,_,he9',hn9⟩:=ho9.form
 simp only [Value.slice.injEq] at he9'
 obtain ⟨rfl,rfl,rfl⟩:=he9'
 have HN9:Hid (n9=(cz rs' up e 3).length):=hn9.1.symm
 have A0:=HS.out.1.later hb9 HS.out.1.lt
 obtain ⟨cs,hcs,hcl⟩:=HS.out.2.2
 replace hcs:=hcs.later hb9 hcs.lt
 have bZ:=HS.out.2.1.trans (hb9.mono HS.out.2.1.size)
 clear hb9 ho9 hn9 HS
 (try simp only [])
 refine ⟨⟨A0,bZ,cs,hcs,hcl⟩,?_⟩
 (try simp [Act.put])
 refine wpA 4 (wpS ?_)
 go_wp2_with fail
 refine (abo a9 n9 c9 Z1).mono ?_
 rintro r _ ⟨rfl,rfl⟩
 (try simp only [])
 refine ⟨⟨A0,bZ,cs,hcs,hcl⟩,?_⟩
 (try simp [Act.put])
 refine wpA 5 ?_
 have hst:=uf hcs hcl hG.vlen (tu rs' up)
 have A2:=At.set (grV rs' up) 0 _ _ hcs
 rw [ik _ _ (by rw [hcl,hG.vlen])] at A2
 have A3:=At.set_ne (show w.heap.size≠w.heap.size+1 by omega) (grV rs' up) 0 _ A0
 have b3:=below_setCells (show w.heap.size≤w.heap.size+1 by omega) (grV rs' up) 0 _ bZ
 refine ma hst rfl rfl rfl rfl ⟨⟨A3,b3,_,A2,hG.vlen⟩,?_⟩
 generalize Z1.setCells (w.heap.size+1) 0 (grV rs' up)=Y at *
 refine wpT 6 (.bool (decide (2≤n9))) (.inl ⟨rfl,fun w' hw'=>?_⟩) ⟨A3,b3,_,A2,hG.vlen⟩ ?_
 ·go_simp
 refine wpZ ?_
 simp [Act.put]
 have HR:Hid ((Instr.loadAt 51 (.pointer (some ⟨w.heap.size+1,0,.none⟩))).run Tryz.prog Y=.ok (.agg (grV rs' up).toArray) Y):=gz A2 hG.vlen
 go_wp2
 refine bodyPost_ret (tq Tryz.results124 rfl HR.out) rfl ⟨by rw [HF.out,←HN9.out];rfl,b3⟩
theorem za (rs:List Rep) (up:List Bool) (e:Int):∀ (k:Nat) (x:Int),x ∈ cz rs up e k→∃ m:Nat,m<k∧x=m
 | 0,x,h=>by simp [cz] at h
 | k+1,x,h=>by
   unfold cz at h
   split at h
   ·rw [List.mem_append] at h
    rcases h with h|h
    ·obtain ⟨m,hm,e⟩:=za rs up e k x h
     exact ⟨m,by omega,e⟩
    ·exact ⟨k,by omega,by simpa using h⟩
   ·obtain ⟨m,hm,e⟩:=za rs up e k x h
    exact ⟨m,by omega,e⟩
theorem getD_in {rs:List Rep} {i:Nat} (h:i<rs.length) {d:Rep}:rs.getD i d=rs[i]:=by simp [h]
theorem updR_ok {rs:List Rep} {up:List Bool} (h:GOK rs up) (e:Int) (i:Int):GOK (updR e rs i) up:=by
 unfold updR
 by_cases hi:i.toNat<rs.length
 ·refine h.set _ ?_
  rw [getD_in hi]
  exact h.ok rs[i.toNat] (List.getElem_mem hi)
 ·rw [List.set_eq_of_length_le (by omega)]
  exact h
theorem foldR_ok {up:List Bool} (e:Int):∀ (l:List Int) (rs:List Rep),GOK rs up→GOK (xh e rs l) up
 | [],_,h=>h
 | i :: l,rs,h=>foldR_ok e l (updR e rs i) (updR_ok h e i)
theorem foldR_next (e:Int) (rs:List Rep) (l:List Int) (k:Nat) (hk:k<l.length):xh e rs (l.take (k+1))=updR e (xh e rs (l.take k)) l[k]:=by
 unfold xh
 rw [List.take_succ_eq_append_getElem hk,List.foldl_append]
 rfl
theorem aco {b k:Nat} (hne:k≠b):∀ (vs:List Value) (o:Nat) (W:World),(W.setCells b o vs).heap[k]? = W.heap[k]?
 | [],_,_=>rfl
 | v :: r,o,W=>by
   rw [World.setCells,aco hne r,Below.heap_setCell _ _ _ _ hne]
theorem gfence_yes (rs:List Rep) (up:List Bool) (e:Int) (w:World) (h:GOK rs up) (he:0≤e) (he9:e≤1000000000) (hyes:2≤(cz rs up (e - 1) 3).length) :
 Calls Tryz.prog 124 #[.agg (grV rs up).toArray,.int .i64 e] w fun r w'=>r=.returned (.tuple #[.agg (grV (d9 rs up e) up).toArray,.bool (decide (2≤(cz (d9 rs up e) up e 3).length))])∧Below w.heap.size w w':=by
 have HFe:Hid (d9 rs up e=xh e rs (cz rs up (e - 1) 3)):=by show _=_;unfold d9;rw [if_pos hyes]
 obtain ⟨X,hX,a0,a1,bX,sX⟩:=two w (.cells (grV rs up).toArray 51) (.cells z78.toArray 51)
 have A0:At X w.heap.size (grV rs up) 51:=a0
 have A1:At X (w.heap.size+1) z78 51:=a1
 have hz:=zero78
 clear a0 a1
 go_enter Tryz.func124,Tryz.ntmps124
 go_upto_region 1 with fail
 rw [←hX]
 clear hX
 have HL:Hid ((Instr.loadAt 51 (.pointer (some ⟨w.heap.size,0,.none⟩))).run Tryz.prog X=.ok (.agg (grV rs up).toArray) X):=gz A0 h.vlen
 go_wp2_with (with_reducible refine ak HL.out rfl rfl ?_)
 clear HL
 refine (aar rs up (e - 1) X h).mono ?_
 rintro r Z ⟨a,n,c,rfl,ho,hb1⟩
 obtain ⟨_,_,_,he',hn⟩:=ho.form
 simp only [Value.slice.injEq] at he'
 obtain ⟨rfl,rfl,rfl⟩:=he'
 obtain ⟨L,hL⟩:∃ L,cz rs up (e - 1) 3=L:=⟨_,rfl⟩
 have hmem:∀ x ∈ L,∃ m:Nat,m<3∧x=m:=fun x hx=>za rs up (e - 1) 3 x (by rw [hL];exact hx)
 rw [hL] at hn hyes ho
 have HF0:Hid (d9 rs up e=xh e rs L):=by show _=_;rw [HFe.out,hL]
 clear HFe hL
 have hnl:n=L.length:=hn.1.symm
 subst hnl
 obtain ⟨b,off,rfl,hrow⟩:=hn.2.2 (by omega)
 have hbb:w.heap.size+1<b:=by have:=ho.block b (by simp [Value.ownBlock]);omega
 replace A0:=A0.later hb1 A0.lt
 replace A1:=A1.later hb1 A1.lt
 have bZ:=bX.trans (hb1.mono bX.size)
 have HM:Hid (∀ x ∈ L,∃ m:Nat,m<3∧x=m):=hmem
 have HRW:Hid (∀ (j:Nat) (hj:j<L.length),Z.cell? ⟨b,off+j,.none⟩=some (.int .i64 L[j])):=hrow
 have hlen:=hn.2.1
 clear hb1 bX ho hn hmem hrow
 go_wp2_with fail
 refine (abo _ _ c Z).mono ?_
 rintro r _ ⟨rfl,rfl⟩
 have hd:decide (2≤L.length)=true:=by simpa using hyes
 go_wp2
 go_loopw [17] (fun i wr=>∃ k:Nat,k≤L.length∧i=.int .i64 k∧At wr w.heap.size (grV (xh e rs (L.take k)) up) 51∧At wr (w.heap.size+1) z78 51∧Below w.heap.size w wr∧∀ (j:Nat) (hj:j<L.length),wr.cell? ⟨b,off+j,.none⟩=some (.int .i64 L[j])) (fun i _=>L.length - (intOf i).toNat)
 case atStart=>exact ⟨0,Nat.zero_le _,rfl,A0,A1,bZ,HRW.out⟩
 case round =>
  clear A0 A1 bZ HRW
  obtain ⟨k,hk,rfl,A0,A1,bZ,hrow⟩:=hrel
  have hGk:=foldR_ok e (L.take k) rs h
  by_cases hlt:k<L.length
  ·have hki:(k:Int)<(L.length:Int):=by omega
   obtain ⟨m,hm3,hm⟩:=HM.out L[k] (List.getElem_mem hlt)
   have c1:=hrow k hlt
   rw [hm] at c1
   have HRW:Hid (∀ (j:Nat) (hj:j<L.length),wr.cell? ⟨b,off+j,.none⟩=some (.int .i64 L[j])):=hrow
   have HNX:Hid (xh e rs (L.take (k+1))=updR e (xh e rs (L.take k)) (m:Int)):=by show _=_;rw [foldR_next e rs L k hlt,hm]
   clear hrow hm
   have hm3':(m:Int)<3:=by omega
   obtain ⟨rk,hrk⟩:∃ rk,xh e rs (L.take k)=rk:=⟨_,rfl⟩
   rw [hrk] at A0 hGk HNX
   clear hrk
   have hml:m<rk.length:=by rw [hGk.len];exact hm3
   have hok:fo rk[m].l:=hGk.ok _ (List.getElem_mem hml)
   have HL1:Hid ((Instr.loadAt 47 (.pointer (some ⟨w.heap.size,m*25,.none⟩))).run Tryz.prog wr=.ok (.agg (aj rk[m].f rk[m].l).toArray) wr):=load_one A0 hGk m hml
   go_wp2_with (with_reducible refine ak HL1.out rfl rfl ?_)
   refine (rfence_any rk[m].f rk[m].l e wr hok he he9).mono ?_
   rintro r W1 ⟨rfl,hb1⟩
   replace A0:=A0.later hb1 A0.lt
   replace A1:=A1.later hb1 A1.lt
   have hrow1:∀ (j:Nat) (hj:j<L.length),W1.cell? ⟨b,off+j,.none⟩=some (.int .i64 L[j]):=fun j hj=>cell_later hb1 (HRW.out j hj)
   replace bZ:=bZ.trans (hb1.mono bZ.size)
   clear hb1 HL1 HRW c1
   obtain ⟨hst,A2⟩:=aby A0 hGk m hml (fenF rk[m].f e) rk[m].l hok
   have A3:=At.set_ne (show w.heap.size+1≠w.heap.size by omega) (aj (fenF rk[m].f e) rk[m].l) (m*25) _ A1
   have b3:=below_setCells (Nat.le_refl w.heap.size) (aj (fenF rk[m].f e) rk[m].l) (m*25) _ bZ
   have hrow2:∀ (j:Nat) (hj:j<L.length),(W1.setCells w.heap.size (m*25) (aj (fenF rk[m].f e) rk[m].l)).cell? ⟨b,off+j,.none⟩=some (.int .i64 L[j]):=fun j hj=>by
    rw [World.cell?_of_block (w:=W1) (aco (show b≠w.heap.size by omega) _ _ _)]
    exact hrow1 j hj
   generalize W1.setCells w.heap.size (m*25) (aj (fenF rk[m].f e) rk[m].l)=W2 at *
   have HS:Hid ((Instr.storeAt 47 (.pointer (some ⟨w.heap.size,m*25,.none⟩)) (.agg (aj (fenF rk[m].f e) rk[m].l).toArray)).run Tryz.prog W1=.ok () W2):=hst
   have HR2:Hid (∀ (j:Nat) (hj:j<L.length),W2.cell? ⟨b,off+j,.none⟩=some (.int .i64 L[j])):=hrow2
   clear hst hrow1 hrow2 A0 A1 bZ
   go_wp2_with (with_reducible refine cu HS.out rfl rfl ?_)
   refine ⟨⟨k+1,by omega,by go_num,?_,A3,b3,HR2.out⟩,by simp [intOf];omega⟩
   rw [HNX.out]
   unfold updR fenR
   rw [show ((m:Int)).toNat=m from rfl,getD_in hml]
   exact A2
  ·obtain rfl:k=L.length:=by omega
   rw [List.take_length] at A0 hGk
   obtain ⟨rs',hrs⟩:∃ rs',xh e rs L=rs':=⟨_,rfl⟩
   have HF:Hid (d9 rs up e=rs'):=by show _=_;rw [HF0.out,hrs]
   rw [hrs] at A0 hGk
   have hG:=hGk
   clear hrs HF0 hGk hrow HM
   obtain ⟨Z,rfl⟩:∃ Z,Z=wr:=⟨_,rfl⟩
   go_wp2_with fail
   refine wp_region_held (S:=fun w'=>At w' w.heap.size (grV rs' up) 51∧Below w.heap.size w w'∧∃ cs,At w' (w.heap.size+1) cs 51∧cs.length=78) (by kernel_rfl) ?_
   have HS:Hid (At Z.drew w.heap.size (grV rs' up) 51∧Below w.heap.size w Z.drew∧∃ cs,At Z.drew (w.heap.size+1) cs 51∧cs.length=78):=⟨A0,bZ.drew,_,A1,rfl⟩
   refine wpT 0 (.agg (grV rs' up).toArray) (.inl ⟨rfl,fun w' hw'=>?_⟩) HS.out ?_
   ·exact jc (gz hw'.1 hG.vlen) rfl
   refine wpT 1 (.agg (grV rs' up).toArray) (.inl ⟨rfl,fun w' hw'=>?_⟩) HS.out ?_
   ·exact jc (gz hw'.1 hG.vlen) rfl
   refine wpG 2 (.int .i64 e) HS.out ?_
   simp [Act.put]
   refine wpA 3 (wpS ?_)
   go_wp2_with fail
   refine (aar rs' up e _ hG).mono ?_
   rintro r Z1 ⟨a9,n9,c9,rfl,ho9,hb9⟩
   obtain ⟨_,_,_,he9',hn9⟩:=ho9.form
   simp only [Value.slice.injEq] at he9'
   obtain ⟨rfl,rfl,rfl⟩:=he9'
   have HN9:Hid (n9=(cz rs' up e 3).length):=hn9.1.symm
   have A0:=HS.out.1.later hb9 HS.out.1.lt
   obtain ⟨cs,hcs,hcl⟩:=HS.out.2.2
   replace hcs:=hcs.later hb9 hcs.lt
   have bZ:=HS.out.2.1.trans (hb9.mono HS.out.2.1.size)
   clear hb9 ho9 hn9 HS
   (try simp only [])
   refine ⟨⟨A0,bZ,cs,hcs,hcl⟩,?_⟩
   (try simp [Act.put])
   refine wpA 4 (wpS ?_)
   go_wp2_with fail
   refine (abo a9 n9 c9 Z1).mono ?_
   rintro r _ ⟨rfl,rfl⟩
   (try simp only [])
   refine ⟨⟨A0,bZ,cs,hcs,hcl⟩,?_⟩
   (try simp [Act.put])
   refine wpA 5 ?_
   have hst:=uf hcs hcl hG.vlen (tu rs' up)
   have A2:=At.set (grV rs' up) 0 _ _ hcs
   rw [ik _ _ (by rw [hcl,hG.vlen])] at A2
   have A3:=At.set_ne (show w.heap.size≠w.heap.size+1 by omega) (grV rs' up) 0 _ A0
   have b3:=below_setCells (show w.heap.size≤w.heap.size+1 by omega) (grV rs' up) 0 _ bZ
   refine ma hst rfl rfl rfl rfl ⟨⟨A3,b3,_,A2,hG.vlen⟩,?_⟩
   generalize Z1.setCells (w.heap.size+1) 0 (grV rs' up)=Y at *
   refine wpT 6 (.bool (decide (2≤n9))) (.inl ⟨rfl,fun w' hw'=>?_⟩) ⟨A3,b3,_,A2,hG.vlen⟩ ?_
   ·go_simp
   refine wpZ ?_
   simp [Act.put]
   have HR:Hid ((Instr.loadAt 51 (.pointer (some ⟨w.heap.size+1,0,.none⟩))).run Tryz.prog Y=.ok (.agg (grV rs' up).toArray) Y):=gz A2 hG.vlen
   go_wp2
   refine bodyPost_ret (tq Tryz.results124 rfl HR.out) rfl ⟨by rw [HF.out,←HN9.out];rfl,b3⟩
theorem gfence_any (rs:List Rep) (up:List Bool) (e:Int) (w:World) (h:GOK rs up) (he:0≤e) (he9:e≤1000000000) :
 Calls Tryz.prog 124 #[.agg (grV rs up).toArray,.int .i64 e] w fun r w'=>r=.returned (.tuple #[.agg (grV (d9 rs up e) up).toArray,.bool (decide (2≤(cz (d9 rs up e) up e 3).length))])∧Below w.heap.size w w':=by
 by_cases hy:2≤(cz rs up (e - 1) 3).length
 ·exact gfence_yes rs up e w h he he9 hy
 ·exact gfence_no rs up e w h he he9 (by omega)
set_option maxRecDepth 100000
def msgV (dst:Int) (k:Nat) (c:Cel) (tag:Int):List Value:=[.int .i64 dst,.int .i64 k,.int .i64 c.e,.int .i64 c.n,.string c.d,.int .i64 tag]
theorem msg_cel {W:World} {b:Nat} {T:TypeId} {dst:Int} {k:Nat} {c:Cel} {tag:Int} (h:At W b (msgV dst k c tag) T):W.rangeAt b 2 c.vs:=by
 refine h.range _ _ (fun j hj=>?_)
 have:j=0∨j=1∨j=2:=by simp [Cel.vs] at hj;omega
 rcases this with rfl|rfl|rfl <;> rfl
theorem deliver_no (rs:List Rep) (up:List Bool) (dst:Int) (k:Nat) (c:Cel) (tag:Int) (w:World) (hG:GOK rs up) (hu:upB up dst=false) :
 Calls Tryz.prog 57 #[.agg (grV rs up).toArray,.agg (msgV dst k c tag).toArray] w fun r w'=>r=.returned (.tuple #[.agg (grV rs up).toArray,.bool false])∧Below w.heap.size w w':=by
 obtain ⟨X,hX,a0,a1,a2,bX,sX⟩:=three w (.cells (grV rs up).toArray 51) (.cells (msgV dst k c tag).toArray 116) (.cells z78.toArray 51)
 have A0:At X w.heap.size (grV rs up) 51:=a0
 have A1:At X (w.heap.size+1) (msgV dst k c tag) 116:=a1
 have A2:At X (w.heap.size+1+1) z78 51:=a2
 have hz:=zero78
 have m0:X.cell? ⟨w.heap.size+1,0,.none⟩=some (.int .i64 dst):=A1.cell 0
 clear a0 a1 a2
 go_enter Tryz.func57,Tryz.ntmps57
 go_upto_region 1 with fail
 rw [←hX]
 clear hX
 have HL:Hid ((Instr.loadAt 51 (.pointer (some ⟨w.heap.size,0,.none⟩))).run Tryz.prog X=.ok (.agg (grV rs up).toArray) X):=gz A0 hG.vlen
 go_wp2_with (with_reducible refine ak HL.out rfl rfl ?_)
 clear HL
 refine (isUp_any rs up dst X hG).mono ?_
 rintro r Z ⟨rfl,hb1⟩
 rw [hu]
 replace A0:=A0.later hb1 A0.lt
 replace A2:=A2.later hb1 A2.lt
 have bZ:=bX.trans (hb1.mono bX.size)
 clear hb1 bX m0 A1
 have HL:Hid ((Instr.loadAt 51 (.pointer (some ⟨w.heap.size,0,.none⟩))).run Tryz.prog Z=.ok (.agg (grV rs up).toArray) Z):=gz A0 hG.vlen
 have hst:=uf A2 rfl hG.vlen (tu rs up)
 have A4:=At.set (grV rs up) 0 _ _ A2
 rw [ik _ _ (by rw [hG.vlen];rfl)] at A4
 have b4:=below_setCells (show w.heap.size≤w.heap.size+1+1 by omega) (grV rs up) 0 _ bZ
 generalize Z.setCells (w.heap.size+1+1) 0 (grV rs up)=Y at *
 have HS:Hid ((Instr.storeAt 51 (.pointer (some ⟨w.heap.size+1+1,0,.none⟩)) (.agg (grV rs up).toArray)).run Tryz.prog Z=.ok () Y):=hst
 have HR:Hid ((Instr.loadAt 51 (.pointer (some ⟨w.heap.size+1+1,0,.none⟩))).run Tryz.prog Y=.ok (.agg (grV rs up).toArray) Y):=gz A4 hG.vlen
 clear hst A0 A2 A4
 go_wp2_with (first|(with_reducible refine ak HL.out rfl rfl ?_)|(with_reducible refine cu HS.out rfl rfl ?_))
 refine bodyPost_ret (tq Tryz.results57 rfl HR.out) rfl ⟨rfl,b4⟩
theorem deliver_yes (rs:List Rep) (up:List Bool) (i:Nat) (k:Nat) (c:Cel) (tag:Int) (w:World) (hG:GOK rs up) (hi:i<rs.length) (hk:k<8) (hu:upB up i=true) :
 Calls Tryz.prog 57 #[.agg (grV rs up).toArray,.agg (msgV i k c tag).toArray] w fun r w'=>r=.returned (.tuple #[.agg (grV (rs.set i ⟨rs[i].f,ib rs[i].f rs[i].l k c⟩) up).toArray,.bool (c.e == rs[i].f)])∧Below w.heap.size w w':=by
 have hok:fo rs[i].l:=hG.ok _ (List.getElem_mem hi)
 have hok2:fo (ib rs[i].f rs[i].l k c):=admL_ok hok
 have hG2:GOK (rs.set i ⟨rs[i].f,ib rs[i].f rs[i].l k c⟩) up:=hG.set i (r:=⟨rs[i].f,ib rs[i].f rs[i].l k c⟩) hok2
 have hi3:(i:Int)<3:=by have:=hG.len;omega
 obtain ⟨X,hX,a0,a1,a2,bX,sX⟩:=three w (.cells (grV rs up).toArray 51) (.cells (msgV i k c tag).toArray 116) (.cells z78.toArray 51)
 have HX:Hid (At X w.heap.size (grV rs up) 51∧At X (w.heap.size+1) (msgV i k c tag) 116∧At X (w.heap.size+1+1) z78 51∧Below w.heap.size w X):=⟨a0,a1,a2,bX⟩
 have hz:=zero78
 have m0:X.cell? ⟨w.heap.size+1,0,.none⟩=some (.int .i64 i):=HX.out.2.1.cell 0
 clear a0 a1 a2 bX
 go_enter Tryz.func57,Tryz.ntmps57
 go_upto_region 1 with fail
 rw [←hX]
 clear hX
 have HL:Hid ((Instr.loadAt 51 (.pointer (some ⟨w.heap.size,0,.none⟩))).run Tryz.prog X=.ok (.agg (grV rs up).toArray) X):=gz HX.out.1 hG.vlen
 go_wp2_with (with_reducible refine ak HL.out rfl rfl ?_)
 clear HL
 refine (isUp_any rs up i X hG).mono ?_
 rintro r Z0 ⟨rfl,hb0⟩
 rw [hu]
 have HZ0:Hid (At Z0 w.heap.size (grV rs up) 51∧At Z0 (w.heap.size+1) (msgV i k c tag) 116∧At Z0 (w.heap.size+1+1) z78 51∧Below w.heap.size w Z0):=⟨HX.out.1.later hb0 HX.out.1.lt,HX.out.2.1.later hb0 HX.out.2.1.lt,HX.out.2.2.1.later hb0 HX.out.2.2.1.lt,HX.out.2.2.2.trans (hb0.mono HX.out.2.2.2.size)⟩
 clear hb0 m0 HX
 go_wp2_with fail
 refine wp_region_held (S:=fun w'=>At w' w.heap.size (grV rs up) 51∧At w' (w.heap.size+1) (msgV i k c tag) 116∧At w' (w.heap.size+1+1) z78 51∧Below w.heap.size w w') (by kernel_rfl) ?_
 have HZ:Hid (At Z0.drew w.heap.size (grV rs up) 51∧At Z0.drew (w.heap.size+1) (msgV i k c tag) 116∧At Z0.drew (w.heap.size+1+1) z78 51∧Below w.heap.size w Z0.drew):=⟨HZ0.out.1,HZ0.out.2.1,HZ0.out.2.2.1,HZ0.out.2.2.2.drew⟩
 obtain ⟨Z,hZe⟩:∃ Z,Z0.drew=Z:=⟨_,rfl⟩
 rw [hZe] at HZ
 show wpAnyH _ _ _ _ _ _ _ _ Z0.drew
 rw [hZe]
 clear hZe HZ0
 refine wpG 0 (.pointer (some ⟨w.heap.size+1,0,.none⟩)) HZ.out ?_
 refine wpT 1 (.int .i64 i) (.inl ⟨rfl,fun w' hw'=>?_⟩) HZ.out ?_
 ·have hc:w'.cell? ⟨w.heap.size+1,0,.none⟩=some (.int .i64 i):=hw'.2.1.cell 0
  go_simp
 refine wpG 2 (.pointer (some ⟨w.heap.size,0,.none⟩)) HZ.out ?_
 refine wpG 3 (.pointer (some ⟨w.heap.size,i*25,.none⟩)) HZ.out ?_
 refine wpT 4 (.agg (aj rs[i].f rs[i].l).toArray) (.inl ⟨rfl,fun w' hw'=>?_⟩) HZ.out ?_
 ·exact jc (load_one hw'.1 hG i hi) rfl
 refine wpG 5 (.pointer (some ⟨w.heap.size+1,1,.none⟩)) HZ.out ?_
 refine wpT 6 (.int .i64 k) (.inl ⟨rfl,fun w' hw'=>?_⟩) HZ.out ?_
 ·have hc:w'.cell? ⟨w.heap.size+1,1,.none⟩=some (.int .i64 k):=hw'.2.1.cell 1
  go_simp
 refine wpG 7 (.pointer (some ⟨w.heap.size+1,2,.none⟩)) HZ.out ?_
 refine wpT 8 (.agg #[.int .i64 c.e,.int .i64 c.n,.string c.d]) (.inl ⟨rfl,fun w' hw'=>?_⟩) HZ.out ?_
 ·exact jc (p8 (c:=c) (msg_cel hw'.2.1)) rfl
 simp [Act.put]
 refine wpB 9 13 ?_ ?_
 ·skip
  refine wpS ?_
  go_wp2_with fail
  refine (admit_any rs[i].f rs[i].l k c Z hok hk).mono ?_
  rintro r Z1 ⟨rfl,hbZ1⟩
  have HZ1:Hid (At Z1 w.heap.size (grV rs up) 51∧At Z1 (w.heap.size+1) (msgV i k c tag) 116∧At Z1 (w.heap.size+1+1) z78 51∧Below w.heap.size w Z1):=⟨HZ.out.1.later hbZ1 HZ.out.1.lt,HZ.out.2.1.later hbZ1 HZ.out.2.1.lt,HZ.out.2.2.1.later hbZ1 HZ.out.2.2.1.lt,HZ.out.2.2.2.trans (hbZ1.mono HZ.out.2.2.2.size)⟩
  refine ⟨HZ1.out,?_⟩
  clear hbZ1 HZ
  (try simp [Act.put])
  refine wpG 10 (.tuple #[.agg (aj rs[i].f (ib rs[i].f rs[i].l k c)).toArray,.bool (c.e == rs[i].f)]) HZ1.out ?_
  refine wpG 11 (.agg (aj rs[i].f (ib rs[i].f rs[i].l k c)).toArray) HZ1.out ?_
  refine wpG 12 (.bool (c.e == rs[i].f)) HZ1.out ?_
  simp [Act.put]
  refine wpA 13 ?_
  obtain ⟨Z2,hZ2⟩:∃ X2,X2=Z1.alloc (.cells z25.toArray 47):=⟨_,rfl⟩
  have A6:At Z2 Z1.heap.size z25 47:=by rw [hZ2];exact heap_alloc_new Z1 _
  have hbZ2:Below Z1.heap.size Z1 Z2:=by rw [hZ2];exact (Below.refl _ _).alloc (Nat.le_refl _) _
  have l0:=HZ1.out.1.lt
  have l1:=HZ1.out.2.1.lt
  have l2:=HZ1.out.2.2.1.lt
  have HZ2:Hid (At Z2 w.heap.size (grV rs up) 51∧At Z2 (w.heap.size+1) (msgV i k c tag) 116∧At Z2 (w.heap.size+1+1) z78 51∧Below w.heap.size w Z2):=⟨HZ1.out.1.later hbZ2 HZ1.out.1.lt,HZ1.out.2.1.later hbZ2 HZ1.out.2.1.lt,HZ1.out.2.2.1.later hbZ2 HZ1.out.2.2.1.lt,HZ1.out.2.2.2.trans (hbZ2.mono HZ1.out.2.2.2.size)⟩
  simp only [z25] at hZ2
  refine wpS ?_
  go_wp2_with fail
  rw [←hZ2]
  clear hZ2 hbZ2
  refine ⟨HZ2.out,?_⟩
  (try simp [Act.put])
  refine wpA 14 ?_
  have hst6:=aav A6 rfl (hok2.vlen rs[i].f) (vone (ib rs[i].f rs[i].l k c) rs[i].f)
  have A6':=At.set (aj rs[i].f (ib rs[i].f rs[i].l k c)) 0 _ _ A6
  rw [ik _ _ (by rw [hok2.vlen];rfl)] at A6'
  have HZ3:Hid (At (Z2.setCells Z1.heap.size 0 (aj rs[i].f (ib rs[i].f rs[i].l k c))) w.heap.size (grV rs up) 51∧At (Z2.setCells Z1.heap.size 0 (aj rs[i].f (ib rs[i].f rs[i].l k c))) (w.heap.size+1) (msgV i k c tag) 116∧At (Z2.setCells Z1.heap.size 0 (aj rs[i].f (ib rs[i].f rs[i].l k c))) (w.heap.size+1+1) z78 51∧Below w.heap.size w (Z2.setCells Z1.heap.size 0 (aj rs[i].f (ib rs[i].f rs[i].l k c)))):=⟨At.set_ne (by omega) _ _ _ HZ2.out.1,At.set_ne (by omega) _ _ _ HZ2.out.2.1,At.set_ne (by omega) _ _ _ HZ2.out.2.2.1,below_setCells (by omega) _ _ _ HZ2.out.2.2.2⟩
  refine ma hst6 rfl rfl rfl rfl ⟨HZ3.out,?_⟩
  clear hst6 A6 HZ2
  have A6:=A6'
  clear A6'
  generalize Z2.setCells Z1.heap.size 0 (aj rs[i].f (ib rs[i].f rs[i].l k c))=Z3 at *
  refine wpG 15 (.bool (c.e == rs[i].f)) HZ3.out ?_
  refine wpZ ?_
  simp [Act.put]
  obtain ⟨hst,A2⟩:=aby HZ3.out.1 hG i hi (rs[i].f) (ib rs[i].f rs[i].l k c) hok2
  have A3:=At.set_ne (show w.heap.size+1+1≠w.heap.size by omega) (aj rs[i].f (ib rs[i].f rs[i].l k c)) (i*25) _ HZ3.out.2.2.1
  have b3:=below_setCells (Nat.le_refl w.heap.size) (aj rs[i].f (ib rs[i].f rs[i].l k c)) (i*25) _ HZ3.out.2.2.2
  have t0:Z3.cell? ⟨w.heap.size+1,0,.none⟩=some (.int .i64 i):=HZ3.out.2.1.cell 0
  have HL6:Hid ((Instr.loadAt 47 (.pointer (some ⟨Z1.heap.size,0,.none⟩))).run Tryz.prog Z3=.ok (.agg (aj rs[i].f (ib rs[i].f rs[i].l k c)).toArray) Z3):=xg A6 (hok2.vlen _)
  generalize Z3.setCells w.heap.size (i*25) (aj rs[i].f (ib rs[i].f rs[i].l k c))=Y at *
  have HS1:Hid ((Instr.storeAt 47 (.pointer (some ⟨w.heap.size,i*25,.none⟩)) (.agg (aj rs[i].f (ib rs[i].f rs[i].l k c)).toArray)).run Tryz.prog Z3=.ok () Y):=hst
  obtain ⟨rs',hrs⟩:∃ rs',rs.set i ⟨rs[i].f,ib rs[i].f rs[i].l k c⟩=rs':=⟨_,rfl⟩
  have HF:Hid (rs.set i ⟨rs[i].f,ib rs[i].f rs[i].l k c⟩=rs'):=hrs
  rw [hrs] at A2 hG2
  have HL7:Hid ((Instr.loadAt 51 (.pointer (some ⟨w.heap.size,0,.none⟩))).run Tryz.prog Y=.ok (.agg (grV rs' up).toArray) Y):=gz A2 hG2.vlen
  have hst2:=uf A3 rfl hG2.vlen (tu rs' up)
  have A4:=At.set (grV rs' up) 0 _ _ A3
  rw [ik _ _ (by rw [hG2.vlen];rfl)] at A4
  have b4:=below_setCells (show w.heap.size≤w.heap.size+1+1 by omega) (grV rs' up) 0 _ b3
  generalize Y.setCells (w.heap.size+1+1) 0 (grV rs' up)=Y2 at *
  have HS2:Hid ((Instr.storeAt 51 (.pointer (some ⟨w.heap.size+1+1,0,.none⟩)) (.agg (grV rs' up).toArray)).run Tryz.prog Y=.ok () Y2):=hst2
  have HR:Hid ((Instr.loadAt 51 (.pointer (some ⟨w.heap.size+1+1,0,.none⟩))).run Tryz.prog Y2=.ok (.agg (grV rs' up).toArray) Y2):=gz A4 hG2.vlen
  clear hst hst2 A2 A3 A4 A6 hrs
  go_wp2_with (first|(with_reducible refine ak HL6.out rfl rfl ?_)|(with_reducible refine cu HS1.out rfl rfl ?_)|(with_reducible refine ak HL7.out rfl rfl ?_)|(with_reducible refine cu HS2.out rfl rfl ?_))
  refine bodyPost_ret (tq Tryz.results57 rfl HR.out) rfl ⟨by rw [HF.out];rfl,b4⟩
 ·skip
  obtain ⟨Z1,hZ1⟩:∃ X2,X2=Z.alloc (.cells z25.toArray 47):=⟨_,rfl⟩
  have A6:At Z1 Z.heap.size z25 47:=by rw [hZ1];exact heap_alloc_new Z _
  have hbZ1:Below Z.heap.size Z Z1:=by rw [hZ1];exact (Below.refl _ _).alloc (Nat.le_refl _) _
  have l0:=HZ.out.1.lt
  have l1:=HZ.out.2.1.lt
  have l2:=HZ.out.2.2.1.lt
  have HZ1:Hid (At Z1 w.heap.size (grV rs up) 51∧At Z1 (w.heap.size+1) (msgV i k c tag) 116∧At Z1 (w.heap.size+1+1) z78 51∧Below w.heap.size w Z1):=⟨HZ.out.1.later hbZ1 HZ.out.1.lt,HZ.out.2.1.later hbZ1 HZ.out.2.1.lt,HZ.out.2.2.1.later hbZ1 HZ.out.2.2.1.lt,HZ.out.2.2.2.trans (hbZ1.mono HZ.out.2.2.2.size)⟩
  simp only [z25] at hZ1
  refine wpS ?_
  go_wp2_with fail
  rw [←hZ1]
  clear hZ1 hbZ1
  refine ⟨HZ1.out,?_⟩
  (try simp [Act.put])
  refine wpA 9 (wpS ?_)
  go_wp2_with fail
  refine (admit_any rs[i].f rs[i].l k c Z1 hok hk).mono ?_
  rintro r Z2 ⟨rfl,hbZ2⟩
  have HZ2:Hid (At Z2 w.heap.size (grV rs up) 51∧At Z2 (w.heap.size+1) (msgV i k c tag) 116∧At Z2 (w.heap.size+1+1) z78 51∧Below w.heap.size w Z2):=⟨HZ1.out.1.later hbZ2 HZ1.out.1.lt,HZ1.out.2.1.later hbZ2 HZ1.out.2.1.lt,HZ1.out.2.2.1.later hbZ2 HZ1.out.2.2.1.lt,HZ1.out.2.2.2.trans (hbZ2.mono HZ1.out.2.2.2.size)⟩
  replace A6:=A6.later hbZ2 A6.lt
  refine ⟨HZ2.out,?_⟩
  clear hbZ2 HZ HZ1
  (try simp [Act.put])
  refine wpG 10 (.tuple #[.agg (aj rs[i].f (ib rs[i].f rs[i].l k c)).toArray,.bool (c.e == rs[i].f)]) HZ2.out ?_
  refine wpG 11 (.agg (aj rs[i].f (ib rs[i].f rs[i].l k c)).toArray) HZ2.out ?_
  refine wpG 12 (.bool (c.e == rs[i].f)) HZ2.out ?_
  simp [Act.put]
  refine wpA 14 ?_
  have hst6:=aav A6 rfl (hok2.vlen rs[i].f) (vone (ib rs[i].f rs[i].l k c) rs[i].f)
  have A6':=At.set (aj rs[i].f (ib rs[i].f rs[i].l k c)) 0 _ _ A6
  rw [ik _ _ (by rw [hok2.vlen];rfl)] at A6'
  have HZ3:Hid (At (Z2.setCells Z.heap.size 0 (aj rs[i].f (ib rs[i].f rs[i].l k c))) w.heap.size (grV rs up) 51∧At (Z2.setCells Z.heap.size 0 (aj rs[i].f (ib rs[i].f rs[i].l k c))) (w.heap.size+1) (msgV i k c tag) 116∧At (Z2.setCells Z.heap.size 0 (aj rs[i].f (ib rs[i].f rs[i].l k c))) (w.heap.size+1+1) z78 51∧Below w.heap.size w (Z2.setCells Z.heap.size 0 (aj rs[i].f (ib rs[i].f rs[i].l k c)))):=⟨At.set_ne (by omega) _ _ _ HZ2.out.1,At.set_ne (by omega) _ _ _ HZ2.out.2.1,At.set_ne (by omega) _ _ _ HZ2.out.2.2.1,below_setCells (by omega) _ _ _ HZ2.out.2.2.2⟩
  refine ma hst6 rfl rfl rfl rfl ⟨HZ3.out,?_⟩
  clear hst6 A6 HZ2
  have A6:=A6'
  clear A6'
  generalize Z2.setCells Z.heap.size 0 (aj rs[i].f (ib rs[i].f rs[i].l k c))=Z3 at *
  refine wpG 15 (.bool (c.e == rs[i].f)) HZ3.out ?_
  refine wpZ ?_
  simp [Act.put]
  obtain ⟨hst,A2⟩:=aby HZ3.out.1 hG i hi (rs[i].f) (ib rs[i].f rs[i].l k c) hok2
  have A3:=At.set_ne (show w.heap.size+1+1≠w.heap.size by omega) (aj rs[i].f (ib rs[i].f rs[i].l k c)) (i*25) _ HZ3.out.2.2.1
  have b3:=below_setCells (Nat.le_refl w.heap.size) (aj rs[i].f (ib rs[i].f rs[i].l k c)) (i*25) _ HZ3.out.2.2.2
  have t0:Z3.cell? ⟨w.heap.size+1,0,.none⟩=some (.int .i64 i):=HZ3.out.2.1.cell 0
  have HL6:Hid ((Instr.loadAt 47 (.pointer (some ⟨Z.heap.size,0,.none⟩))).run Tryz.prog Z3=.ok (.agg (aj rs[i].f (ib rs[i].f rs[i].l k c)).toArray) Z3):=xg A6 (hok2.vlen _)
  generalize Z3.setCells w.heap.size (i*25) (aj rs[i].f (ib rs[i].f rs[i].l k c))=Y at *
  have HS1:Hid ((Instr.storeAt 47 (.pointer (some ⟨w.heap.size,i*25,.none⟩)) (.agg (aj rs[i].f (ib rs[i].f rs[i].l k c)).toArray)).run Tryz.prog Z3=.ok () Y):=hst
  obtain ⟨rs',hrs⟩:∃ rs',rs.set i ⟨rs[i].f,ib rs[i].f rs[i].l k c⟩=rs':=⟨_,rfl⟩
  have HF:Hid (rs.set i ⟨rs[i].f,ib rs[i].f rs[i].l k c⟩=rs'):=hrs
  rw [hrs] at A2 hG2
  have HL7:Hid ((Instr.loadAt 51 (.pointer (some ⟨w.heap.size,0,.none⟩))).run Tryz.prog Y=.ok (.agg (grV rs' up).toArray) Y):=gz A2 hG2.vlen
  have hst2:=uf A3 rfl hG2.vlen (tu rs' up)
  have A4:=At.set (grV rs' up) 0 _ _ A3
  rw [ik _ _ (by rw [hG2.vlen];rfl)] at A4
  have b4:=below_setCells (show w.heap.size≤w.heap.size+1+1 by omega) (grV rs' up) 0 _ b3
  generalize Y.setCells (w.heap.size+1+1) 0 (grV rs' up)=Y2 at *
  have HS2:Hid ((Instr.storeAt 51 (.pointer (some ⟨w.heap.size+1+1,0,.none⟩)) (.agg (grV rs' up).toArray)).run Tryz.prog Y=.ok () Y2):=hst2
  have HR:Hid ((Instr.loadAt 51 (.pointer (some ⟨w.heap.size+1+1,0,.none⟩))).run Tryz.prog Y2=.ok (.agg (grV rs' up).toArray) Y2):=gz A4 hG2.vlen
  clear hst hst2 A2 A3 A4 A6 hrs
  go_wp2_with (first|(with_reducible refine ak HL6.out rfl rfl ?_)|(with_reducible refine cu HS1.out rfl rfl ?_)|(with_reducible refine ak HL7.out rfl rfl ?_)|(with_reducible refine cu HS2.out rfl rfl ?_))
  refine bodyPost_ret (tq Tryz.results57 rfl HR.out) rfl ⟨by rw [HF.out];rfl,b4⟩
end Go.Proofs.YtpkhdihoijkamaaGreatDoor.G
namespace Go.Proofs.YtpkhdihoijkamaaGreatDoor
open Go.ChangeShapes Go.WideShapes Go.ChangeAt Go.RowKit
theorem aak (who:Int) (w:World):Calls Tryz.prog 100 #[.int .i64 who] w fun e w'=>e=.returned (.bool (decide (1≤who∧who≤4)))∧w'=w:=by
 go_enter Tryz.func100,Tryz.ntmps100
 by_cases h1:1≤who <;> by_cases h4:who≤4 <;> go_wp2 <;> go_ret <;> exact ⟨fq (by simp [h1,h4]),rfl⟩
theorem ints_one (l:List Int):∀ u ∈ l.map (Value.int .i64),u.oneCell'=true:=by
 intro u hu
 obtain ⟨x,_,rfl⟩:=List.mem_map.1 hu
 rfl
theorem adn {ops:Array Oper} {rest:List Oper} {o:Oper} {a:Act} {Q:Exit→Act→World→Prop} (hgd:o.guard=.none) (s x:Operand) (hop:o.op=.call { callee:=.builtin .append,args:=#[s,x],argTypes:=#[25,25] })
 (base:Nat) (u:Value) (acc:List Int) (ax:Option Addr) (nx cx:Nat) (l:List Int) (X:World) (hs:a.eval s=u) (hx:a.eval x=.slice ax nx cx) (hnil:ax=.none→cx=0) (ho:ja X base u acc) (hr:dz X ax nx l) (hl:acc.length+l.length≤1000000) (hb:base≤X.heap.size)
 (h:∀ v' w',ja w' base v' (acc ++ l)→Below base X w'→(u≠.slice .none 0 0→v'≠.slice .none 0 0)→wpList Tryz.prog ops Q rest (a.put o.dst v') w') :
 wpList Tryz.prog ops Q (o :: rest) a X:=by
 obtain ⟨i0,hi,hz0,hz1,hz2⟩:=zero_int
 have hrl:=hr.1
 cases ax with
 | none =>
   have h0:nx=0:=by
    rcases Nat.eq_zero_or_pos nx with h|h
    ·exact h
    ·obtain ⟨b,off,e,_⟩:=hr.2.2 (by omega)
     cases e
   subst h0
   obtain rfl:=hnil rfl
   have hl0:l=[]:=List.eq_nil_of_length_eq_zero hrl
   subst hl0
   exact wpList_append_own_none hgd s x 25 hop base 3 i0 1 Tryz.underlying25 hi u acc.length _ hs ho hx (h u X (by simpa using ho) (Below.refl _ _) id)
 | some ad =>
   refine wpList_append_own _ hgd s x 25 hop base 3 i0 _ 1 8 Tryz.underlying25 hi hz0 hz1 hz2 rfl (by decide) u acc.length _ hs ho ad nx cx (l.map (Value.int .i64)) hx (by simp [hrl])
    (fun j v hj=>by
     have hlt:j<l.length:=by simpa using (List.getElem?_eq_some_iff.1 hj).1
     obtain ⟨b,off,e,hc⟩:=hr.2.2 (by omega)
     simp only [Option.some.injEq] at e
     subst e
     rw [Addr.add_lit,hc j hlt]
     simpa [hlt] using hj) (ints_one l) (by simp only [maxLen];omega) (by omega) hb ?_
   intro v' w' hown hgrow hiff
   refine h v' w' ?_ ((Below.refl _ _).grown hgrow hb ho.block) (fun hu hv=>hu (hiff.1 hv).1)
   unfold ja
   rw [List.length_append,List.map_append,hrl]
   exact hown
theorem ownI_made (w:World):ja (w.alloc (.cells #[] 3)) w.heap.size (.slice (some ⟨w.heap.size,0,.none⟩) 0 0) []:=by
 have:=World.ownsRow_made (e:=3) (size:=1) w #[] 0 (Nat.le_refl _) (Nat.zero_le _) (by simp)
 simpa [ja] using this
theorem aau (ad:Addr) (n c:Nat) (l:List Int) (w:World) (hr:dz w (some ad) n l) (hn:n≤1000000) :
 Calls Tryz.prog 101 #[.slice (some ad) n c] w fun e w'=>∃ v,e=.returned v∧ja w' w.heap.size v l∧Below w.heap.size w w':=by
 have q22:∀ (w:World) (a:Option Addr) (n c n' c':Nat),(binOp .eql 25 (.slice a n c) (.slice .none n' c')).run Tryz.prog w=.ok (.bool a.isNone) w:=fun w a n c n' c'=>Lib.run_eql_slice_nil w _ _ a n c n' c' Tryz.underlying25
 have hl:=hr.1
 have HR:Hid (dz w (some ad) n l):=hr
 clear hr
 go_enter Tryz.func101,Tryz.ntmps101
 have hX:∀ o,Below w.heap.size w (w.alloc o):=fun o=>(Below.refl _ _).alloc (Nat.le_refl _) o
 go_wp2_with (at_builtin;refine adn rfl _ _ rfl w.heap.size (.slice (some ⟨w.heap.size,0,.none⟩) 0 0) [] (some ad) n c l (w.alloc (.cells #[] 3)) rfl rfl (fun h=>by cases h) (ownI_made w) (HR.out.later (hX _)) (by simp;omega) (by simp) ?_)
 intro v' w1 hown hb _
 go_wp2
 go_ret
 exact ⟨v',rfl,by simpa using hown,(hX _).trans hb⟩
theorem grow_nil (n:Nat) (w:World) (h0:0<n) (hn:n≤1000000) :
 Calls Tryz.prog 173 #[.slice .none 0 0,.int .i64 n] w fun e w'=>∃ a n' c',e=.returned (.slice (some a) n' c')∧ja w' w.heap.size (.slice (some a) n' c') []∧Below w.heap.size w w':=by
 obtain ⟨i0,hi0,hz0,hz1,hz2⟩:=zero_int
 have hrun:∀ ty,(Builtin.append_ #[25,3] ty #[.slice .none 0 0,.int .i64 (n:Int)]).run Tryz.prog w=_:=fun ty =>
  Lib.run_append_nil_zeros w 25 3 ty 3 i0 _ .i64 .i64 Tryz.underlying25 Tryz.underlying3 hi0 hz0 n h0 (by rw [hz1];decide) (by omega) (by rw [hz2];omega)
 have HG:Hid (n≤grownCap w n 0 3):=grownCap_ge w _ _ _
 have HG63:Hid (grownCap w n 0 3≤maxLen):=grownCap_le_maxLen w n 0 3 (by unfold maxLen;omega)
 generalize grownCap w n 0 3=G at *
 have hnp:(0:Int)<(n:Int):=by omega
 have hnn:decide ((n:Int)<0)=false:=by simp
 have hG0:(0:Int)≤(G:Int):=by omega
 go_enter Tryz.func173,Tryz.ntmps173
 go_wp2_with (at_builtin;refine Lib.wpList_append_run _ rfl _ _ 25 3 rfl (.slice .none 0 0) (.int .i64 (n:Int)) rfl rfl _ _ (hrun _) ?_)
 go_wp2
 go_ret
 refine ⟨_,_,_,rfl,⟨rfl,.inr ⟨w.heap.size,G,_,rfl,Nat.le_refl _,heap_alloc_new _ _,Nat.zero_le _,HG63.out,?_,by simp⟩⟩,?_⟩
 ·have:=HG.out
  simp [size_zeroCells];omega
 ·exact ((Below.refl _ _).drew).alloc (Nat.le_refl _) _
theorem concat_two (A cA:Nat) (a1 a2:Option Addr) (n1 c1 n2 c2:Nat) (l1 l2:List Int) (w:World) (hA0:w.cell? ⟨A,0,.none⟩=some (.slice a1 n1 c1)) (hA1:w.cell? ⟨A,1,.none⟩=some (.slice a2 n2 c2))
 (hr1:dz w a1 n1 l1) (hr2:dz w a2 n2 l2) (hc1:a1=.none→c1=0) (hc2:a2=.none→c2=0) (h1:n1≤1000) (h2:n2≤1000) (h0:0<n2) :
 Calls Tryz.prog 135 #[.slice (some ⟨A,0,.none⟩) 2 cA] w fun e w'=>∃ v,e=.returned v∧ja w' w.heap.size v (l1 ++ l2)∧Below w.heap.size w w':=by
 have e1:=hr1.1
 have e2:=hr2.1
 have HR1:Hid (dz w a1 n1 l1):=hr1
 have HR2:Hid (dz w a2 n2 l2):=hr2
 clear hr1 hr2
 go_enter Tryz.func135,Tryz.ntmps135
 go_wp2
 go_loopw [3,11] (fun s i wr=>w=wr∧∃ k:Nat,k≤2∧i=.int .i64 k∧s=.int .i64 (if k=0 then 0 else if k=1 then (n1:Int) else (n1:Int)+n2)) (fun _ i _=>2 - (intOf i).toNat)
 case atStart=>exact ⟨rfl,0,by omega,rfl,rfl⟩
 case round =>
  obtain ⟨rfl,k,hk,rfl,rfl⟩:=hrel
  rcases (by omega:k=0∨k=1∨k=2) with rfl|rfl|rfl
  ·simp only [if_pos]
   go_wp2
   go_roundw
   case rel=>exact ⟨by trivial,1,by omega,rfl,by simp⟩
   case measure=>simp [intOf]
  ·simp only [if_pos,if_neg (show ¬(1:Nat)=0 by decide)]
   have hs0:decide ((n1:Int)+n2<0)=false:=by simp;omega
   go_wp2
   go_roundw
   case rel=>exact ⟨by trivial,2,by omega,rfl,by simp⟩
   case measure=>simp [intOf]
  ·simp only [if_neg (show ¬(2:Nat)=0 by decide),if_neg (show ¬(2:Nat)=1 by decide)]
   obtain ⟨N,hN⟩:∃ N:Nat,N=n1+n2:=⟨_,rfl⟩
   have hN0:0<N:=by omega
   have hN1:N≤1000000:=by omega
   have hg:((n1:Int)+n2)=(N:Int):=by omega
   rw [hg]
   clear hg hN
   go_wp2_with fail
   refine (grow_nil N w hN0 hN1).mono ?_
   rintro e w1 ⟨ag,ng,cg,rfl,ho,hb⟩
   have HO:Hid (ja w1 w.heap.size (.slice (some ag) ng cg) []):=ho
   clear ho
   have hsz:=hb.size
   go_wp2
   go_loopw [6,27] (fun u i wr=>∃ (k:Nat) (v:Value),k≤2∧i=.int .i64 k∧v=u∧ja wr w.heap.size v (if k=0 then [] else if k=1 then l1 else l1 ++ l2)∧Below w.heap.size w wr) (fun _ i _=>2 - (intOf i).toNat)
   case atStart=>exact ⟨0,_,by omega,rfl,rfl,HO.out,hb⟩
   case round =>
    obtain ⟨k,v,hk,rfl,rfl,ho,hbr⟩:=hrel
    have hA0r:=cell_later hbr hA0
    have hA1r:=cell_later hbr hA1
    have hszr:=hbr.size
    clear hA0 hA1
    rcases (by omega:k=0∨k=1∨k=2) with rfl|rfl|rfl
    ·simp only [if_pos] at ho
     have HOr:Hid (ja wr w.heap.size v []):=ho
     clear ho
     go_wp2_with (at_builtin;refine adn rfl _ _ rfl w.heap.size v [] a1 n1 c1 l1 wr rfl rfl hc1 HOr.out (HR1.out.later hbr) (by simp;omega) hszr ?_)
     intro v' w2 ho2 hb2 _
     have HO2:Hid (ja w2 w.heap.size v' ([] ++ l1)):=ho2
     clear ho2
     go_wp2
     go_roundw
     case rel=>exact ⟨1,_,by omega,rfl,rfl,by simpa using HO2.out,hbr.trans hb2⟩
     case measure=>simp [intOf]
    ·simp only [if_pos,if_neg (show ¬(1:Nat)=0 by decide)] at ho
     have HOr:Hid (ja wr w.heap.size v l1):=ho
     clear ho
     go_wp2_with (at_builtin;refine adn rfl _ _ rfl w.heap.size v l1 a2 n2 c2 l2 wr rfl rfl hc2 HOr.out (HR2.out.later hbr) (by omega) hszr ?_)
     intro v' w2 ho2 hb2 _
     have HO2:Hid (ja w2 w.heap.size v' (l1 ++ l2)):=ho2
     clear ho2
     go_wp2
     go_roundw
     case rel=>exact ⟨2,_,by omega,rfl,rfl,by simpa using HO2.out,hbr.trans hb2⟩
     case measure=>simp [intOf]
    ·simp only [if_neg (show ¬(2:Nat)=0 by decide),if_neg (show ¬(2:Nat)=1 by decide)] at ho
     have HOr:Hid (ja wr w.heap.size v (l1 ++ l2)):=ho
     clear ho
     go_wp2
     go_ret
     exact ⟨v,rfl,HOr.out,hbr⟩
end Go.Proofs.YtpkhdihoijkamaaGreatDoor
