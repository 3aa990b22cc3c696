/- Several texts of this seat in one: DBeh, DAdd, DMem. No statement of the seat is proved here. -/
import Derived.Test.YtpkhdihoijkamaaGreatDoorWT
import Derived.Test.YtpkhdihoijkamaaGreatDoorZA01
import Derived.Maps.AppendAt
import Derived.Great.BuildSlice
set_option maxHeartbeats 8000000
set_option maxRecDepth 100000
namespace Go.Proofs.YtpkhdihoijkamaaGreatDoor.D
open Go.ChangeShapes Go.WideShapes Go.ChangeAt Go.RowKit Go.Deep
attribute [local go_sem] zc65
def RowN (w:World) (g cap:Nat) (l:List Wr):Prop :=
 l.length≤cap∧cap≤9223372036854775807∧∃ cur:List Value,At w g cur 150∧cur.length=cap*65∧cur.take (l.length*65)=wrs l
theorem nk.split {w:World} {v:Value} {l:List Wr} (h:nk w v l):(v=.slice .none 0 0∧l=[])∨∃ g cap,v=.slice (some ⟨g,0,.none⟩) l.length cap∧RowN w g cap l:=by
 rcases h.2 with ⟨rfl,h0⟩|⟨g,cap,cur,rfl,hb,hg,hnc,hcm,hs,ht⟩
 ·exact .inl ⟨rfl,List.eq_nil_of_length_eq_zero h0⟩
 ·exact .inr ⟨g,cap,rfl,hnc,by simpa [maxLen] using hcm,cur.toList,by unfold At;simpa using hg,by simpa using hs,ht⟩
theorem RowN.own {w:World} {g cap:Nat} {l:List Wr} (h:RowN w g cap l) (hl:∀ x ∈ l,x.data.length=64):nk w (.slice (some ⟨g,0,.none⟩) l.length cap) l:=by
 obtain ⟨h1,h2,cur,A,hs,ht⟩:=h
 exact ⟨wrs_len l hl,.inr ⟨g,cap,cur.toArray,rfl,Nat.zero_le _,A,h1,by simpa [maxLen] using h2,by simpa using hs,by simpa using ht⟩⟩
theorem RowN.row {w:World} {g cap:Nat} {l:List Wr} (h:RowN w g cap l) (hl:∀ x ∈ l,x.data.length=64):RowW w (some ⟨g,0,.none⟩) l.length l:=by
 obtain ⟨h1,h2,cur,A,hs,ht⟩:=h
 refine ⟨rfl,by omega,hl,fun _=>⟨g,cur,_,rfl,A,fun j hj q hq=>?_⟩⟩
 rw [←wrs_at l j hj q hl hq,←ht,List.getElem?_take_of_lt]
 have:(j+1)*65≤l.length*65:=Nat.mul_le_mul_right _ (by omega)
 omega
theorem RowN.lt {w:World} {g cap:Nat} {l:List Wr} (h:RowN w g cap l):g<w.heap.size:=by
 obtain ⟨h1,h2,cur,A,hs,ht⟩:=h
 exact A.lt
theorem RowN.later {w w':World} {B g cap:Nat} {l:List Wr} (h:RowN w g cap l) (hb:Below B w w') (hB:g<B):RowN w' g cap l:=by
 obtain ⟨h1,h2,cur,A,hs,ht⟩:=h
 exact ⟨h1,h2,cur,A.later hb hB,hs,ht⟩
theorem zerosW_one (m:Nat):∀ v ∈ (Builtin.zeroCells (Value.agg z65.toArray).cells m).toList,v.oneCell'=true:=by
 intro v hv
 simp only [Builtin.zeroCells,Value.cells,Array.toList_map,List.mem_map] at hv
 obtain ⟨j,_,rfl⟩:=hv
 have h65:j % z65.toArray.size<65:=Nat.mod_lt _ (by decide)
 have hall:∀ i,i<65→(z65.toArray[i]!).oneCell'=true:=by decide +kernel
 exact hall _ h65
theorem run_clearW_own (w:World) (g p m c:Nat) (cur:List Value) (hg:w.heap[g]? = some (.cells cur.toArray 150 (0,0))) (hm:0<m) (hfit:p+m*65≤cur.length) :
 ∃ cur':List Value,cur'.length=cur.length∧cur'.take p=cur.take p∧∀ ty,(Builtin.clear_ #[146] ty #[.slice (some ⟨g,p,.none⟩) m c]).run Tryz.prog w=.ok (.tuple #[]) (w.setRow g cur'.toArray):=by
 have hz:(Builtin.zeroCells (Value.agg z65.toArray).cells m).size=m*65:=by rw [size_zeroCells];rfl
 have hst:=run_storeCells_at Tryz.prog g p 150 (Builtin.zeroCells (Value.agg z65.toArray).cells m).toList 0 cur.toArray w hg (by simp [hz];omega) (zerosW_one m)
 refine ⟨cur.take p ++ (Builtin.zeroCells (Value.agg z65.toArray).cells m).toList ++ cur.drop (p+m*65),by simp [hz];omega,by simp [List.take_append];rw [List.take_of_length_le (by simp;omega)];simp;omega,fun ty=>?_⟩
 obtain ⟨k,rfl⟩:∃ k,m=k+1:=⟨m - 1,by omega⟩
 simp [Builtin.clear_,run_underlying Tryz.underlying146]
 rw [zc65]
 simp [hz] at hst
 simp [hst]
theorem ae.row {F F':Nat→Prop} {u w:World} (h:ae F F' u w) {b:Nat} (hb:F b) (cs:Array Value):ae F F' u (w.setRow b cs) :=
 ⟨h.os,h.tape,h.output,by have:=h.size;simpa [World.setRow] using this,fun k hk hn=>by rw [setRow_other w b k cs (fun e=>hn (by rw [e];exact hb))];exact h.block k hk hn,h.grown⟩
theorem deleteW_some (g cap:Nat) (l:List Wr) (bw bit:Nat) (w:World) (ho:RowN w g cap l) (hl:∀ x ∈ l,x.data.length=64) (hcov:w.cell? ⟨bw,0,.none⟩=some (.int .i64 bit)) (hne:bw≠g) :
 Calls Tryz.prog 188 #[.slice (some ⟨g,0,.none⟩) l.length cap,covV bw] w fun e w' =>
  e=.returned (.slice (some ⟨g,0,.none⟩) (lm bit l).length cap)∧RowN w' g cap (lm bit l)∧ae (Is g) (Is g) w w':=by
 have hglt:=ho.lt
 have hncap:=ho.1
 have hcap:=ho.2.1
 have hrow:=ho.row hl
 generalize hn:l.length=n at *
 have HO:Hid (RowN w g cap l):=ho
 have HR:Hid (RowW w (some ⟨g,0,.none⟩) n l):=hrow
 have HDL:Hid (∀ x ∈ l,x.data.length=64):=hl
 have HCV:Hid (w.cell? ⟨bw,0,.none⟩=some (.int .i64 bit)):=hcov
 have HN:Hid (l.length=n):=hn
 clear hrow ho hl hcov hn
 go_enter Tryz.func188,Tryz.ntmps188
 go_wp2_with fail
 refine (indexW_any (some ⟨g,0,.none⟩) n cap l bw bit w HR.out HCV.out).mono ?_
 rintro e w1 ⟨⟨i,rfl,hi⟩,hb1⟩
 rcases hi with ⟨rfl,hall⟩|⟨k,rfl,hk,he,ha⟩
 ·have hk:=keptW_all hall
  clear hall
  go_wp2
  go_ret
  rw [hk,HN.out]
  exact ⟨rfl,HO.out.later hb1 hglt,ae.of hb1 (Nat.le_refl _)⟩
 ·have hne1:((k:Int) == -1)=false:=beq_eq_false_iff_ne.2 (by omega)
  have HM:Hid (MidW bit w1 g cap l k (k+1)):=by
   obtain ⟨_,_,cur,A,hs,ht⟩:=HO.out.later hb1 hglt
   exact MidW.start HDL.out A (by rw [HN.out];exact hncap) hs ht hk he ha
  have HV:Hid (ae (Is g) (Is g) w w1):=ae.of hb1 (Nat.le_refl _)
  have hkn:k<n:=by have:=HN.out;omega
  clear HR ha he hk hb1
  go_wp2
  go_loopw [5,6] (fun u v wr=>∃ i j:Nat,u=.int .i64 i∧v=.int .i64 j∧MidW bit wr g cap l i j∧ae (Is g) (Is g) w wr) (fun _ v _=>n - (intOf v).toNat)
  case atStart=>exact ⟨k,k+1,rfl,by go_num,HM.out,HV.out⟩
  case round =>
   clear HM HV hne1
   obtain ⟨i,j,rfl,rfl,hM,hmv⟩:=hrel
   have hij:=hM.2.1
   have hjn:=hM.2.2.1
   rw [HN.out] at hjn
   have hmlt:=hM.lt
   have HV:Hid (ae (Is g) (Is g) w wr):=hmv
   have hz:=zero65
   by_cases hlt:j<n
   ·have hjl:j<l.length:=by rw [HN.out];exact hlt
    have hx64:=HDL.out l[j] (List.getElem_mem hjl)
    obtain ⟨cur,Ag,hcl,hcq⟩:=hM.cells HDL.out hjl
    have HL:Hid ((Instr.loadAt 150 (.pointer (some ⟨g,j*65,.none⟩))).run Tryz.prog wr=.ok (.agg l[j].vs.toArray) wr):=load_wr Ag hx64 hcq
    have hcv:=hmv.cell HCV.out (show ¬Is g bw from hne)
    obtain ⟨X,hX,a0,bX,sX⟩:=one wr (.cells z65.toArray 150)
    have A0:At X wr.heap.size z65 150:=a0
    have hst:=store_wr (o:=0) A0 hx64 (by rw [z65_len];decide)
    have A1:=At.set l[j].vs 0 _ _ A0
    rw [ik _ _ (by rw [Wr.vlen hx64,z65_len])] at A1
    have bY:=below_setCells (Nat.le_refl wr.heap.size) l[j].vs 0 _ bX
    generalize X.setCells wr.heap.size 0 l[j].vs=Y at *
    have HST:Hid ((Instr.storeAt 150 (.pointer (some ⟨wr.heap.size,0,.none⟩)) (.agg l[j].vs.toArray)).run Tryz.prog (wr.alloc (.cells z65.toArray 150))=.ok () Y):=by rw [←hX];exact hst
    have HLY:Hid ((Instr.loadAt 150 (.pointer (some ⟨wr.heap.size,0,.none⟩))).run Tryz.prog Y=.ok (.agg l[j].vs.toArray) Y):=load_wr0 A1 hx64
    have HC:Hid (Calls Tryz.prog 187 #[.agg l[j].vs.toArray,.pointer (some ⟨bw,0,.none⟩)] Y fun e w'=>e=.returned (.bool (l[j].bit == bit))∧Below Y.heap.size Y w'):=cov_any l[j] bw bit Y (cell_later bY hcv)
    have HMY:Hid (MidW bit Y g cap l i j):=hM.later bY hmlt
    have HVY:Hid (ae (Is g) (Is g) w Y):=hmv.trans (ae.of bY (Nat.le_refl _))
    have HA1:Hid (At Y wr.heap.size l[j].vs 150):=A1
    clear hcq hcv a0 A0 hst A1 bX bY hM hmv Ag hX sX
    cases hq:(l[j].bit == bit)
    ·rw [hq] at HC
     go_upto_region 9 with (first|(with_reducible refine ak HL.out rfl rfl ?_)|(with_reducible refine cu HST.out rfl rfl ?_)|(with_reducible refine ak HLY.out rfl rfl ?_)|(go_at_call 187;refine HC.out.mono ?_;rintro e Z ⟨rfl,hbZ⟩))
     have HMZ:Hid (MidW bit Z g cap l i j):=HMY.out.later hbZ HMY.out.lt
     have AZ:=HA1.out.later hbZ HA1.out.lt
     have HLZ:Hid ((Instr.loadAt 150 (.pointer (some ⟨wr.heap.size,0,.none⟩))).run Tryz.prog Z=.ok (.agg l[j].vs.toArray) Z):=load_wr0 AZ hx64
     obtain ⟨curZ,AgZ,hclZ,_⟩:=HMZ.out.cells HDL.out hjl
     have hfit:(i+1)*65≤cap*65:=Nat.mul_le_mul_right _ (by omega)
     have hsz:=store_wr (o:=i*65) AgZ hx64 (by omega)
     have HK:Hid (MidW bit (Z.setCells g (i*65) l[j].vs) g cap l (i+1) (j+1)):=HMZ.out.keep HDL.out hjl hq
     have HVZ:Hid (ae (Is g) (Is g) w (Z.setCells g (i*65) l[j].vs)):=ae.sets (show Is g g from rfl) _ _ _ (HVY.out.trans (ae.of hbZ (Nat.le_refl _)))
     generalize Z.setCells g (i*65) l[j].vs=Z2 at *
     have HSZ:Hid ((Instr.storeAt 150 (.pointer (some ⟨g,i*65,.none⟩)) (.agg l[j].vs.toArray)).run Tryz.prog Z=.ok () Z2):=hsz
     have hin:i<n:=by omega
     clear hsz AgZ hclZ AZ HMZ hbZ HMY HVY HC HLY HST HL HA1
     go_wp2_with (first|(with_reducible refine ak HLZ.out rfl rfl ?_)|(with_reducible refine cu HSZ.out rfl rfl ?_))
     go_roundw
     case rel=>exact ⟨i+1,j+1,by go_num,by go_num,HK.out,HVZ.out⟩
     case measure=>simp [intOf];omega
    ·rw [hq] at HC
     go_wp2_with (first|(with_reducible refine ak HL.out rfl rfl ?_)|(with_reducible refine cu HST.out rfl rfl ?_)|(with_reducible refine ak HLY.out rfl rfl ?_)|(go_at_call 187;refine HC.out.mono ?_;rintro e Z ⟨rfl,hbZ⟩))
     have HK:Hid (MidW bit Z g cap l i (j+1)):=(HMY.out.later hbZ HMY.out.lt).skip HDL.out hjl hq
     have HVZ:Hid (ae (Is g) (Is g) w Z):=HVY.out.trans (ae.of hbZ (Nat.le_refl _))
     clear hbZ HMY HVY HC HLY HST HL HA1
     go_wp2
     go_roundw
     case rel=>exact ⟨i,j+1,rfl,by go_num,HK.out,HVZ.out⟩
     case measure=>simp [intOf];omega
   ·have hje:j=n:=by omega
    subst hje
    obtain ⟨h1,h2,h3,h4,cur,hg,hs,ht,hd⟩:=hM
    rw [←HN.out,List.take_length] at h1 ht
    obtain ⟨cur',hl',ht',hcl⟩:=run_clearW_own wr g (i*65) (j - i) (cap - i) cur hg (by omega) (by rw [hs,←Nat.add_mul];exact Nat.mul_le_mul_right _ (by omega))
    have HC:Hid (i=(lm bit l).length):=h1
    have HO':Hid (RowN (wr.setRow g cur'.toArray) g cap (lm bit l)):=by
     refine ⟨by omega,hcap,cur',setRow_heap wr g _ _ _ _ hg,by omega,?_⟩
     rw [←h1,ht',ht]
    have HV':Hid (ae (Is g) (Is g) w (wr.setRow g cur'.toArray)):=HV.out.row rfl _
    clear h1 ht hd hg ht' hl' hz
    go_wp2
    go_ret
    exact ⟨by rw [←HC.out];rfl,HO'.out,HV'.out⟩
end Go.Proofs.YtpkhdihoijkamaaGreatDoor.D
namespace Go.Proofs.YtpkhdihoijkamaaGreatDoor.D
open Go.ChangeShapes Go.WideShapes Go.ChangeAt Go.RowKit Go.Deep
attribute [local go_sem] zc65
def Ob (v:Value):Nat→Prop:=fun k=>v.ownBlock=some k
theorem Ob.slice (g n c:Nat):Ob (.slice (some ⟨g,0,.none⟩) n c)=Is g:=by
 funext k
 unfold Ob Is
 simp only [Value.ownBlock,Option.some.injEq]
 exact propext ⟨fun h=>h.symm,fun h=>h.symm⟩
theorem deleteW_any (v:Value) (l:List Wr) (bw bit:Nat) (w:World) (ho:nk w v l) (hl:∀ x ∈ l,x.data.length=64) (hcov:w.cell? ⟨bw,0,.none⟩=some (.int .i64 bit)) (hne:¬Ob v bw) :
 Calls Tryz.prog 188 #[v,covV bw] w fun e w'=>∃ v',e=.returned v'∧nk w' v' (lm bit l)∧Ob v'=Ob v∧ae (Ob v) (Ob v) w w':=by
 rcases ho.split with ⟨rfl,rfl⟩|⟨g,cap,rfl,hoN⟩
 ·clear hne hl ho
  go_enter Tryz.func188,Tryz.ntmps188
  go_wp2_with fail
  refine (indexW_any .none 0 0 [] bw bit w ⟨rfl,by decide,by simp,fun h=>absurd rfl h⟩ hcov).mono ?_
  rintro e w1 ⟨⟨i,rfl,hi⟩,hb1⟩
  rcases hi with ⟨rfl,hall⟩|⟨k,rfl,hk,he,ha⟩
  ·clear hall
   go_wp2
   go_ret
   exact ⟨_,rfl,⟨rfl,.inl ⟨rfl,rfl⟩⟩,rfl,ae.of hb1 (Nat.le_refl _)⟩
  ·simp at hk
 ·rw [Ob.slice] at hne
  refine (deleteW_some g cap l bw bit w hoN hl hcov hne).mono ?_
  rintro e w' ⟨rfl,h1,h2⟩
  refine ⟨_,rfl,h1.own (fun x hx=>hl x (List.mem_filter.1 hx).1),by rw [Ob.slice,Ob.slice],by rw [Ob.slice];exact h2⟩
theorem zero_wr:∃ i,Tryz.prog.info? 150=some i∧i.zero=some (.agg z65.toArray)∧i.size=65∧i.bytes=72:=by
 have h:(Tryz.prog.info? 150).map (fun i=>(i.zero,i.size,i.bytes))=some (some (.agg z65.toArray),65,72):=by kernel_rfl
 cases hi:Tryz.prog.info? 150 with
 | none=>rw [hi] at h;cases h
 | some i=>rw [hi] at h;simp at h;exact ⟨i,rfl,h.1,h.2.1,h.2.2⟩
theorem addr0 (b j:Nat):(⟨b,0,.none⟩:Addr).add j=⟨b,j,.none⟩:=by
 cases j with
 | zero=>rfl
 | succ j=>simp [Addr.add]
theorem wp_appW {o:Oper} {a:Act} {K:Act→World→Prop} {Q:Exit→Act→World→Prop} (s x:Operand) (hop:o.op=.call { callee:=.builtin .append,args:=#[s,x],argTypes:=#[146,146] })
 (u:Value) (acc:List Wr) (b:Nat) (p:Wr) (X:World) (T:TypeId) (hs:a.eval s=u) (hx:a.eval x=.slice (some ⟨b,0,.none⟩) 1 1) (ho:nk X u acc) (hp:p.data.length=64) (A:At X b p.vs T) (hl:acc.length≤1000)
 (h:∀ v' w',nk w' v' (acc ++ [p])→ae (Ob u) (Ob v') X w'→K (a.put o.dst v') w'):Oper.wp Tryz.prog o a X K Q:=by
 obtain ⟨i0,hi,hz0,hz1,hz2⟩:=zero_wr
 obtain ⟨v',w',hr,h2,h3,h4,h5⟩:=run_append_own_at (P:=Tryz.prog) (w:=X) 0 146 o.type 150 i0 _ 65 72 Tryz.underlying146 hi hz0 hz1 hz2 rfl (by decide) u acc.length _ ho ⟨b,0,.none⟩ 1 1 p.vs (by rw [Wr.vlen hp])
  (fun j v hj=>by rw [addr0,A.cell];exact hj) p.one (by simp only [maxLen];omega) (by omega) (Nat.zero_le _)
 unfold Oper.wp execOp
 simp only [hop,resolve,invoke,builtin,Sem.run_bind,Sem.run_pure,Result.andThen_ok,List.map_toArray,List.map_cons,List.map_nil,hs,hx,hr]
 refine h v' w' ?_ ⟨h3.os,h3.tape,h3.output,h3.size,fun k hk hn=>h3.block k hk (fun e=>hn e.symm),fun k hk=>?_⟩
 ·have e:(acc ++ [p]).length=acc.length+1:=by simp
  unfold nk
  rw [e,acm]
  have e2:wrs [p]=p.vs:=by simp [wrs]
  rw [e2]
  exact h2
 ·rcases h5 with h5|h5
  ·exact .inl (by unfold Ob at *;rw [←h5];exact hk)
  ·refine .inr ?_
   unfold Ob at hk
   rw [h5] at hk
   simp only [Option.some.injEq] at hk
   omega
theorem fill_wr (x:Wr) (h:x.data.length=64):Instr.fill (fun i=>some (i*65,65)) ((Array.range (1*65)).map ((Value.agg z65.toArray).cells[· % (Value.agg z65.toArray).cells.size]!)) [(0,.agg x.vs.toArray)]=some x.vs.toArray:=by
 have:=Great.fill_whole (s:=65) (by decide) [Value.agg x.vs.toArray] ((Array.range (1*65)).map ((Value.agg z65.toArray).cells[· % (Value.agg z65.toArray).cells.size]!)) (fun v hv=>by simp at hv;subst hv;exact (show x.vs.toArray.size=65 by rw [List.size_toArray];exact Wr.vlen h)) (by simp)
 simpa [Value.cells] using this
theorem wp_build1W {o:Oper} {a:Act} {w:World} {K:Act→World→Prop} {Q:Exit→Act→World→Prop} (x:Operand) (ho:o.op=.buildSlice 146 1 #[(0,x)]) (r:Wr) (hr:r.data.length=64) (hx:a.eval x=.agg r.vs.toArray)
 (h:K (a.put o.dst (.slice (some ⟨w.heap.size,0,.none⟩) 1 1)) (w.alloc (.cells r.vs.toArray 150))):o.wp Tryz.prog a w K Q:=by
 obtain ⟨i,hi,hz,hs,hb⟩:=zero_wr
 refine wp_buildSlice _ _ 1 _ ho r.vs.toArray i _ Tryz.underlying146 hi hz (by rw [hs];decide) (by rw [hs];decide) ?_ h
 rw [hs]
 have e:(#[(0,x)].map fun (p:Nat × Operand)=>(p.1,a.eval p.2)).toList=[(0,Value.agg r.vs.toArray)]:=by simp [hx]
 rw [e]
 exact fill_wr r hr
theorem behind_any (v:Value) (l:List Wr) (x:Wr) (w:World) (ho:nk w v l) (hl:∀ x ∈ l,x.data.length=64) (hx:x.data.length=64) (hn:l.length≤1000) :
 Calls Tryz.prog 158 #[v,.agg x.vs.toArray] w fun e w'=>∃ v',e=.returned v'∧nk w' v' (lm x.bit l ++ [x])∧ae (Ob v) (Ob v') w w':=by
 obtain ⟨X,hX,a0,bX,sX⟩:=one w (.cells x.vs.toArray 150)
 have A0:At X w.heap.size x.vs 150:=a0
 have HO:Hid (nk X v l):=ho.later bX (Nat.le_refl _)
 have hnb:¬Ob v w.heap.size:=fun h=>by have:=ho.lt h;omega
 have HB:Hid (Below w.heap.size w X):=bX
 have hkl:(lm x.bit l).length≤1000:=Nat.le_trans (keptW_le _ _) hn
 clear a0 ho bX
 go_enter Tryz.func158,Tryz.ntmps158
 go_upto_region 2 with fail
 rw [←hX]
 clear hX
 refine wp_region_held (S:=fun w'=>At w' w.heap.size x.vs 150) (by kernel_rfl) ?_
 have HS:Hid (At X.drew w.heap.size x.vs 150):=A0
 have HOd:Hid (nk X.drew v l):=HO.out
 have HMd:Hid (ae (Ob v) (Ob v) w X.drew):=ae.of HB.out.drew (Nat.le_refl _)
 obtain ⟨Z,hZ⟩:∃ Z,Z=X.drew:=⟨_,rfl⟩
 show wpAnyH _ _ _ _ _ _ _ _ X.drew
 rw [←hZ] at HS HOd HMd ⊢
 clear hZ HO HB A0 sX
 refine wpG 0 (v) HS.out ?_
 refine wpG 1 (covV w.heap.size) HS.out ?_
 refine wpT 3 (.agg x.vs.toArray) (.inl ⟨rfl,fun w' hw'=>?_⟩) HS.out ?_
 ·exact jc (load_wr0 hw' hx) rfl
 simp [Act.put]
 refine wpB 2 4 ?_ ?_
 ·as_aux_lemma =>
  refine wpS ?_
  go_wp2_with fail
  refine (deleteW_any v l w.heap.size x.bit Z HOd.out hl (HS.out.cell 0) hnb).mono ?_
  rintro e Z1 ⟨v1,rfl,ho1,hob,hm1⟩
  have HS1:Hid (At Z1 w.heap.size x.vs 150):=hm1.at HS.out hnb
  have HM1:Hid (ae (Ob v) (Ob v) w Z1):=HMd.out.trans hm1
  have HO1:Hid (nk Z1 v1 (lm x.bit l)):=ho1
  have hz1:=hm1.size
  clear ho1 hm1 HS HOd HMd
  (try simp only [])
  refine ⟨HS1.out,?_⟩
  (try simp [Act.put])
  refine wpA 4 (wpS ?_)
  refine wp_build1W (.tmp 10) rfl x hx rfl ?_
  obtain ⟨Z2,hZ2,a2,b2,s2⟩:=one Z1 (.cells x.vs.toArray 150)
  rw [←hZ2]
  have A2:At Z2 Z1.heap.size x.vs 150:=a2
  have HS2:Hid (At Z2 w.heap.size x.vs 150):=HS1.out.later b2 HS1.out.lt
  have HM2:Hid (ae (Ob v) (Ob v) w Z2):=HM1.out.trans (ae.of b2 (Nat.le_refl _))
  have HO2:Hid (nk Z2 v1 (lm x.bit l)):=HO1.out.later b2 (Nat.le_refl _)
  clear hZ2 a2 b2 HS1 HM1 HO1
  refine ⟨HS2.out,?_⟩
  (try simp [Act.put])
  refine wpA 5 (wpS ?_)
  refine wp_appW (.tmp 9) (.tmp 11) rfl v1 (lm x.bit l) Z1.heap.size x Z2 _ rfl rfl HO2.out hx A2 hkl ?_
  intro v' w' ho' hm'
  have hnb1:¬Ob v1 w.heap.size:=by rw [hob];exact hnb
  have HS3:Hid (At w' w.heap.size x.vs 150):=hm'.at HS2.out hnb1
  have HM3:Hid (ae (Ob v) (Ob v') w w'):=by rw [hob] at hm';exact HM2.out.trans hm'
  refine ⟨HS3.out,?_⟩
  (try simp [Act.put])
  refine wpG 6 (v') HS3.out ?_
  refine wpZ ?_
  (try simp [Act.put])
  clear hm' HS2 HO2
  go_wp2_with fail
  go_ret
  exact ⟨v',rfl,ho',HM3.out⟩
 ·as_aux_lemma =>
  refine wpS ?_
  refine wp_build1W (.tmp 10) rfl x hx rfl ?_
  obtain ⟨Z2,hZ2,a2,b2,s2⟩:=one Z (.cells x.vs.toArray 150)
  rw [←hZ2]
  have A2:At Z2 Z.heap.size x.vs 150:=a2
  have HS2:Hid (At Z2 w.heap.size x.vs 150):=HS.out.later b2 HS.out.lt
  have HM2:Hid (ae (Ob v) (Ob v) w Z2):=HMd.out.trans (ae.of b2 (Nat.le_refl _))
  have HO2:Hid (nk Z2 v l):=HOd.out.later b2 (Nat.le_refl _)
  have hnz:¬Ob v Z.heap.size:=fun h=>by have:=HOd.out.lt h;omega
  clear hZ2 a2 b2 HS HMd HOd
  refine ⟨HS2.out,?_⟩
  (try simp [Act.put])
  refine wpA 2 (wpS ?_)
  go_wp2_with fail
  refine (deleteW_any v l w.heap.size x.bit Z2 HO2.out hl (HS2.out.cell 0) hnb).mono ?_
  rintro e Z1 ⟨v1,rfl,ho1,hob,hm1⟩
  have HS1:Hid (At Z1 w.heap.size x.vs 150):=hm1.at HS2.out hnb
  have A3:At Z1 Z.heap.size x.vs 150:=hm1.at A2 hnz
  have HM1:Hid (ae (Ob v) (Ob v) w Z1):=HM2.out.trans hm1
  have HO1:Hid (nk Z1 v1 (lm x.bit l)):=ho1
  clear ho1 hm1 HS2 HO2 HM2 A2
  (try simp only [])
  refine ⟨HS1.out,?_⟩
  (try simp [Act.put])
  refine wpA 5 (wpS ?_)
  refine wp_appW (.tmp 9) (.tmp 11) rfl v1 (lm x.bit l) Z.heap.size x Z1 _ rfl rfl HO1.out hx A3 hkl ?_
  intro v' w' ho' hm'
  have hnb1:¬Ob v1 w.heap.size:=by rw [hob];exact hnb
  have HS3:Hid (At w' w.heap.size x.vs 150):=hm'.at HS1.out hnb1
  have HM3:Hid (ae (Ob v) (Ob v') w w'):=by rw [hob] at hm';exact HM1.out.trans hm'
  refine ⟨HS3.out,?_⟩
  (try simp [Act.put])
  refine wpG 6 (v') HS3.out ?_
  refine wpZ ?_
  (try simp [Act.put])
  clear hm' HS1 HO1
  go_wp2_with fail
  go_ret
  exact ⟨v',rfl,ho',HM3.out⟩
end Go.Proofs.YtpkhdihoijkamaaGreatDoor.D
namespace Go.Proofs.YtpkhdihoijkamaaGreatDoor.D
open Go.ChangeShapes Go.WideShapes Go.ChangeAt Go.RowKit Go.Deep
attribute [local go_sem] zc65
theorem sz64:(Tryz.prog.info? 148).map (·.size)=some 64:=by kernel_rfl
theorem und64:∃ d,Tryz.prog.underlying 148=some d∧d.isRow=true:=⟨_,Tryz.underlying148,rfl⟩
theorem load_sec {X:World} {g o:Nat} {T:TypeId} {cs:List Value} {s:Sec} (h:At X g cs T) (hx:s.length=64) (hc:∀ q,q<64→cs[o+q]? = (bcs s)[q]?) :
 (Instr.loadAt 148 (.pointer (some ⟨g,o,.none⟩))).run Tryz.prog X=.ok (.agg (bcs s).toArray) X:=by
 obtain ⟨d,hd,hr⟩:=und64
 exact run_loadAt_mid X g o _ (bcs s) d (h.range o (bcs s) (fun j hj=>hc j (by rw [uo,hx] at hj;exact hj))) hd hr (by rw [uo,hx];exact sz64)
theorem load_wrd {X:World} {g:Nat} {T:TypeId} {x:Wr} (h:At X g x.vs T) (hx:x.data.length=64):(Instr.loadAt 148 (.pointer (some ⟨g,1,.none⟩))).run Tryz.prog X=.ok (.agg (bcs x.data).toArray) X :=
 load_sec h hx (fun q _=>by rw [Nat.add_comm];rfl)
theorem store_sec {X:World} {g o:Nat} {T:TypeId} {cs:List Value} {s:Sec} (h:At X g cs T) (hx:s.length=64) (ho:o+64≤cs.length) :
 (Instr.storeAt 148 (.pointer (some ⟨g,o,.none⟩)) (.agg (bcs s).toArray)).run Tryz.prog X=.ok () (X.setCells g o (bcs s)) :=
 run_storeAt_mid X g o _ (bcs s).toArray (by simpa [uo,hx] using h.there o 64 ho) (by simpa [uo,hx] using sz64) (all_oneCell_toArray (bcs_one s))
theorem secs_set:∀ (l:List Sec) (k:Nat),k<l.length→∀ (s:Sec),(∀ x ∈ l,x.length=64)→s.length=64→il (secs l) (k*64) (bcs s)=secs (l.set k s)
 | [],k,h,_,_,_=>by simp at h
 | x :: l,k,h,s,hl,hs=>by
   have hall:∀ y ∈ l,y.length=64:=fun y hy=>hl y (List.mem_cons_of_mem _ hy)
   have hx:=hl x List.mem_cons_self
   have hz:=abj (x :: l) hl
   have hk:(k+1)*64≤(x :: l).length*64:=Nat.mul_le_mul_right _ h
   rw [aa0 _ _ _ (by rw [uo,hs,hz];omega)]
   cases k with
   | zero =>
     simp only [secs,List.flatMap_cons,Nat.zero_mul,List.take_zero,List.nil_append,Nat.zero_add,List.set_cons_zero,uo,hs]
     rw [List.drop_append,uo,hx,List.drop_of_length_le (by rw [uo,hx];omega)]
     simp
   | succ k =>
     have ih:=secs_set l k (by simpa using h) s hall hs
     have hz2:=abj l hall
     rw [aa0 _ _ _ (by rw [uo,hs,hz2];simp at h;omega)] at ih
     simp only [secs,List.flatMap_cons,List.set_cons_succ] at ih ⊢
     rw [←ih,List.take_append,List.drop_append,uo,uo,hx,hs,List.take_of_length_le (by rw [uo,hx];omega),List.drop_of_length_le (by rw [uo,hx];omega)]
     rw [show (k+1)*64 - 64=k*64 by omega,show (k+1)*64+64 - 64=k*64+64 by omega]
     simp
theorem DAt.now {w w':World} {b n:Nat} {D:DM} {P:DP} (h:DAt w b n D P) (hm:ae (Is P.nb) (Is P.nb) w w') (l:List Sec) (hl:l.length=n) (h64:∀ x ∈ l,x.length=64) (A:At w' P.nb (secs l) 148):DAt w' b n { D with now:=l } P:=by
 obtain ⟨n1,n2,n3,n4,n5,n6⟩:=h.ne1
 have ok:=h.ok
 refine ⟨⟨ok.k,hl,ok.s,ok.n1,ok.n40,ok.kl,h64,ok.sl,ok.nx,ok.lo,ok.hi⟩,hm.at h.hd (fun e=>n2 e.symm),hm.at h.k n4,A,hm.at h.s (fun e=>n6 e.symm),h.len,fun i l v h1 h2=>?_,h.ne1,h.ne2,h.ne3⟩
 have ho:=h.own i l v h1 h2
 exact ho.kept fun k e=>hm.block k (ho.lt e) (h.ne2 v (List.mem_of_getElem? h2) k e).2.2.1
theorem DAt.keptS {w w':World} {b n:Nat} {D:DM} {P:DP} (h:DAt w b n D P) (hm:ae (Is P.kb) (Is P.kb) w w') (l:List Sec) (hl:l.length=n) (h64:∀ x ∈ l,x.length=64) (A:At w' P.kb (secs l) 148):DAt w' b n { D with kept:=l } P:=by
 obtain ⟨n1,n2,n3,n4,n5,n6⟩:=h.ne1
 have ok:=h.ok
 refine ⟨⟨hl,ok.m,ok.s,ok.n1,ok.n40,h64,ok.ml,ok.sl,ok.nx,ok.lo,ok.hi⟩,hm.at h.hd (fun e=>n1 e.symm),A,hm.at h.m (fun e=>n4 e.symm),hm.at h.s (fun e=>n5 e.symm),h.len,fun i l v h1 h2=>?_,h.ne1,h.ne2,h.ne3⟩
 have ho:=h.own i l v h1 h2
 exact ho.kept fun k e=>hm.block k (ho.lt e) (h.ne2 v (List.mem_of_getElem? h2) k e).2.1
theorem List.mem_set_or {α:Type} {l:List α} {k:Nat} {x y:α} (h:y ∈ l.set k x):y=x∨y ∈ l:=by
 rcases List.mem_or_eq_of_mem_set h with h|h
 ·exact .inr h
 ·exact .inl h
theorem DAt.sinc {w w':World} {b n:Nat} {D:DM} {P:DP} (h:DAt w b n D P) (k:Nat) (v v':Value) (l':List Wr) (hv:P.svs[k]? = some v) (hm:ae (fun q=>q=P.sb∨Ob v q) (fun q=>q=P.sb∨Ob v' q) w w') (A:At w' P.sb (P.svs.set k v') 146) (ho:nk w' v' l')
 (hok:(∀ x ∈ l',x.data.length=64∧x.bit<64)∧(l'.map Wr.bit).Nodup):DAt w' b n { D with since:=D.since.set k l' } { P with svs:=P.svs.set k v' }∧(∀ q,DF { P with svs:=P.svs.set k v' } b q→DF P b q∨w.heap.size≤q):=by
 obtain ⟨n1,n2,n3,n4,n5,n6⟩:=h.ne1
 have ok:=h.ok
 have hvm:=List.mem_of_getElem? hv
 have hkl:k<P.svs.length:=(List.getElem?_eq_some_iff.1 hv).1
 have hks:k<D.since.length:=by rw [ok.s,←h.len];exact hkl
 obtain ⟨l,hl⟩:∃ l,D.since[k]? = some l:=⟨_,List.getElem?_eq_getElem hks⟩
 have hov:=h.own k l v hl hv
 have keep:∀ {q:Nat} {cs:List Value} {T:TypeId},At w q cs T→q≠P.sb→¬Ob v q→At w' q cs T:=fun A' h1 h2=>hm.at A' (fun e=>e.elim h1 h2)
 have far:∀ q,Ob v' q→Ob v q∨w.heap.size≤q:=fun q hq=>by
  rcases hm.grown q (.inr hq) with (e|e)|e
  ·exact absurd A.lt (by
    have:w'.heap[P.sb]? = some (.cells (P.svs.set k v').toArray 146 (0,0)):=A
    rcases ho.2 with ⟨e1,_⟩|⟨g,cap,cur,e1,h1,hg,h2⟩
    ·rw [e1] at hq;cases hq
    ·rw [e1] at hq
     simp [Ob,Value.ownBlock] at hq
     subst hq
     rw [e] at hg
     rw [hg] at this
     simp only [Option.some.injEq,Obj.cells.injEq] at this
     have:=this.2.1
     exact absurd this (by decide))
  ·exact .inl e
  ·exact .inr e
 have ne2v:∀ q,Ob v' q→q≠b∧q≠P.kb∧q≠P.nb∧q≠P.sb:=fun q hq=>by
  rcases far q hq with e|e
  ·exact h.ne2 v hvm q e
  ·have h1:=h.hd.lt
   have h2:=h.k.lt
   have h3:=h.m.lt
   have h4:=h.s.lt
   exact ⟨by omega,by omega,by omega,by omega⟩
 have ne3v:∀ (j:Nat) (u:Value) (q:Nat),j≠k→P.svs[j]? = some u→Ob u q→¬Ob v' q:=fun j u q hj hu hq hq'=>by
  rcases far q hq' with e|e
  ·exact hj (h.ne3 j k u v q hu hv hq e)
  ·have hjs:j<D.since.length:=by rw [ok.s,←h.len];exact (List.getElem?_eq_some_iff.1 hu).1
   have:=(h.own j D.since[j] u (List.getElem?_eq_getElem hjs) hu).lt hq
   omega
 refine ⟨⟨⟨ok.k,ok.m,by simpa using ok.s,ok.n1,ok.n40,ok.kl,ok.ml,fun y hy=>?_,ok.nx,ok.lo,ok.hi⟩,?_,?_,?_,A,by simpa using h.len,fun i y u h1 h2=>?_,h.ne1,fun u hu q hq=>?_,fun i j u u' q h1 h2 h3 h4=>?_⟩,?_⟩
 ·rcases List.mem_set_or hy with rfl|hy
  ·exact hok
  ·exact ok.sl y hy
 ·exact keep h.hd (fun e=>n3 e.symm) (fun e=>(h.ne2 v hvm _ e).1 rfl)
 ·exact keep h.k n5 (fun e=>(h.ne2 v hvm _ e).2.1 rfl)
 ·exact keep h.m n6 (fun e=>(h.ne2 v hvm _ e).2.2.1 rfl)
 ·by_cases hik:i=k
  ·subst hik
   rw [List.getElem?_set_self hks] at h1
   rw [List.getElem?_set_self hkl] at h2
   simp only [Option.some.injEq] at h1 h2
   subst h1 h2
   exact ho
  ·rw [List.getElem?_set_ne (Ne.symm hik)] at h1 h2
   have hou:=h.own i y u h1 h2
   refine hou.kept fun q hq=>hm.block q (hou.lt hq) (fun e=>e.elim (h.ne2 u (List.mem_of_getElem? h2) q hq).2.2.2 (fun e=>hik (h.ne3 i k u v q h2 hv hq e)))
 ·rcases List.mem_set_or hu with rfl|hu
  ·exact ne2v q hq
  ·exact h.ne2 u hu q hq
 ·by_cases hik:i=k
  ·by_cases hjk:j=k
   ·omega
   ·subst hik
    rw [List.getElem?_set_self hkl] at h1
    rw [List.getElem?_set_ne (Ne.symm hjk)] at h2
    simp only [Option.some.injEq] at h1
    subst h1
    exact absurd h3 (ne3v j u' q hjk h2 h4)
  ·rw [List.getElem?_set_ne (Ne.symm hik)] at h1
   by_cases hjk:j=k
   ·subst hjk
    rw [List.getElem?_set_self hkl] at h2
    simp only [Option.some.injEq] at h2
    subst h2
    exact absurd h4 (ne3v i u q hik h1 h3)
   ·rw [List.getElem?_set_ne (Ne.symm hjk)] at h2
    exact h.ne3 i j u u' q h1 h2 h3 h4
 ·rintro q (rfl|rfl|rfl|rfl|⟨u,hu,hq⟩)
  ·exact .inl (.inl rfl)
  ·exact .inl (.inr (.inl rfl))
  ·exact .inl (.inr (.inr (.inl rfl)))
  ·exact .inl (.inr (.inr (.inr (.inl rfl))))
  ·rcases List.mem_set_or hu with rfl|hu
   ·rcases far q hq with e|e
    ·exact .inl (.inr (.inr (.inr (.inr ⟨v,hvm,e⟩))))
    ·exact .inr e
   ·exact .inl (.inr (.inr (.inr (.inr ⟨u,hu,hq⟩))))
end Go.Proofs.YtpkhdihoijkamaaGreatDoor.D
