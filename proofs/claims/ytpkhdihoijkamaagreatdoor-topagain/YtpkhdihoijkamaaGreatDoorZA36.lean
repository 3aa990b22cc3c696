/- Several texts of this seat in one: LastM, UAsk, UMath, UTI, UNew. No statement of the seat is proved here. -/
import Derived.Test.YtpkhdihoijkamaaGreatDoorWT
import Derived.Test.YtpkhdihoijkamaaGreatDoorZA28
import Derived.Test.YtpkhdihoijkamaaGreatDoorZA31
import Derived.Test.YtpkhdihoijkamaaGreatDoorZA35
import Derived.Test.YtpkhdihoijkamaaGreatDoorZA26
import Derived.Test.YtpkhdihoijkamaaGreatDoorZA12
import Derived.Test.YtpkhdihoijkamaaGreatDoorZA32
import Derived.Test.YtpkhdihoijkamaaGreatDoorZA27
set_option maxHeartbeats 32000000
set_option maxRecDepth 100000
namespace Go.Proofs.YtpkhdihoijkamaaGreatDoor.D
section
variable {P:Program} {ops:Array Oper} {Q:Exit→Act→World→Prop} {md:Region.Mode} {S:World→Prop}
def wpM (P:Program) (md:Region.Mode) (ops:Array Oper) (Q:Exit→Act→World→Prop) (S:World→Prop) (z:Nat):Nat→Array Bool→Act→World→Prop
 | 0,done,a,w=>Region.ready md ops done=[]∧Q .normal a w
 | k+1,done,a,w=>(Region.ready md ops done=[]→Q .normal a w) ∧
   ∀ j ∈ Region.ready md ops done,wpOp P ops Q j (fun a1 w1=>((done.setIfInBounds j true).getD z true=false→S w1)∧wpM P md ops Q S z k (done.setIfInBounds j true) a1 w1) a w
theorem wpM_any (z:Nat):∀ (k:Nat) (done:Array Bool) (a:Act) (w:World),wpM P md ops Q S z k done a w→wpAny P md ops Q k done a w
 | 0,_,_,_,h=>h
 | k+1,_,_,_,h=>⟨h.1,fun j hj=>wpOp_mono (fun a1 w1 q=>wpM_any z k _ a1 w1 q.2) (h.2 j hj)⟩
theorem wpM_first {z i:Nat} {oi:Oper} {v:Value} (hi:ops[i]? = some oi) (hsel:∀ (j:Nat) (o:Oper) cs b,ops[j]? = some o→o.op≠.select cs b) (hQ:∀ c a w,Q (.panic c) (a.put oi.dst v) w→Q (.panic c) a w)
 (p:List Nat) (hp:chainB md ops i p=true) (hz:z ∈ p) :
 ∀ (k:Nat) (done:Array Bool) (a:Act) (w:World),(∀ j oj,ops[j]? = some oj→j≠i→done.getD j true=false→(∀ e ∈ oj.after,Region.binds md e=true→e.on≠i)→oi.apart ops oj=true) →
   i ∈ Region.ready md ops done→(∀ q ∈ p,done.getD q true=false)→YieldsIf P ops S oi v a→S w →
   wpM P md ops Q S z k (done.setIfInBounds i true) (a.put oi.dst v) w→wpM P md ops Q S z (k+1) done a w:=by
 intro k
 induction k with
 | zero =>
   intro done a w _ hr _ hy hS H
   refine ⟨fun h0=>absurd hr (by rw [h0];simp),fun j hj=>?_⟩
   by_cases e:j=i
   ·rw [e];exact hy.wpOp hi hS ⟨fun _=>hS,H⟩
   ·exact absurd (ready_mono hj e) (by rw [H.1];simp)
 | succ k ih =>
   intro done a w hfree hr hu hy hS H
   refine ⟨fun h0=>absurd hr (by rw [h0];simp),fun j hj=>?_⟩
   by_cases e:j=i
   ·rw [e];exact hy.wpOp hi hS ⟨fun _=>hS,H⟩
   ·have hun:=(mem_ready.1 hr).1
    have hjp:j ∉ p:=ack hun p hp hu j hj
    have hjz:j≠z:=fun e=>hjp (e▸hz)
    have hiz:i≠z:=fun e=>ack hun p hp hu i hr (e▸hz)
    have hzu:((done.setIfInBounds i true).setIfInBounds j true).getD z true=false:=by rw [getD_set_ne true hjz,getD_set_ne true hiz];exact hu z hz
    obtain ⟨hjun,oj,hoj,hall⟩:=mem_ready.1 hj
    have hno:∀ x ∈ oj.after,Region.binds md x=true→x.on≠i:=fun x hx hb heq=>by
     have h1:=hall x hx hb
     rw [heq] at h1
     exact unlisted hun h1
    have h2:=wpOp_putIf hoj (hfree j oj hoj e hjun hno) (fun cs b=>hsel i oi cs b hi) (fun cs b=>hsel j oj cs b hoj) hQ hy (H.2 j (ready_mono hj e))
    refine wpOp_mono (fun a1 w1 h3=>⟨fun _=>h3.2.1 hzu,ih (done.setIfInBounds j true) a1 w1 ?_ (ready_mono hr (Ne.symm e)) ?_ h3.1 (h3.2.1 hzu) ?_⟩) h2
    ·intro q oq hq hqi hqu hqn
     refine hfree q oq hq hqi ?_ hqn
     by_cases hjq:j=q
     ·rw [←hjq];exact hjun
     ·rw [getD_set_ne true hjq] at hqu;exact hqu
    ·intro q hq
     rw [getD_set_ne true (fun (e2:j=q)=>hjp (by rw [e2];exact hq))]
     exact hu q hq
    ·rw [Array.setIfInBounds_comm _ _ e]
     exact h3.2.2
theorem wpM_firstP {z i:Nat} {oi:Oper} {v:Value} (hi:ops[i]? = some oi) (hsel:∀ (j:Nat) (o:Oper) cs b,ops[j]? = some o→o.op≠.select cs b) (hQ:∀ c a w,Q (.panic c) (a.put oi.dst v) w→Q (.panic c) a w) (hiz:i≠z) :
 ∀ (k:Nat) (done:Array Bool) (a:Act) (w:World),(∀ j oj,ops[j]? = some oj→j≠i→done.getD j true=false→(∀ e ∈ oj.after,Region.binds md e=true→e.on≠i)→oi.apart ops oj=true) →
   i ∈ Region.ready md ops done→YieldsIf P ops (fun _=>True) oi v a→(done.getD z true=false→S w) →
   wpM P md ops Q S z k (done.setIfInBounds i true) (a.put oi.dst v) w→wpM P md ops Q S z (k+1) done a w:=by
 intro k
 induction k with
 | zero =>
   intro done a w _ hr hy hS H
   refine ⟨fun h0=>absurd hr (by rw [h0];simp),fun j hj=>?_⟩
   by_cases e:j=i
   ·rw [e];exact hy.wpOp hi trivial ⟨fun h=>hS (by rwa [getD_set_ne true hiz] at h),H⟩
   ·exact absurd (ready_mono hj e) (by rw [H.1];simp)
 | succ k ih =>
   intro done a w hfree hr hy hS H
   refine ⟨fun h0=>absurd hr (by rw [h0];simp),fun j hj=>?_⟩
   by_cases e:j=i
   ·rw [e];exact hy.wpOp hi trivial ⟨fun h=>hS (by rwa [getD_set_ne true hiz] at h),H⟩
   ·have hun:=(mem_ready.1 hr).1
    obtain ⟨hjun,oj,hoj,hall⟩:=mem_ready.1 hj
    have hno:∀ x ∈ oj.after,Region.binds md x=true→x.on≠i:=fun x hx hb heq=>by
     have h1:=hall x hx hb
     rw [heq] at h1
     exact unlisted hun h1
    have h2:=wpOp_putIf hoj (hfree j oj hoj e hjun hno) (fun cs b=>hsel i oi cs b hi) (fun cs b=>hsel j oj cs b hoj) hQ hy (H.2 j (ready_mono hj e))
    have hst:∀ (_:Act) (w1:World),(((done.setIfInBounds i true).setIfInBounds j true).getD z true=false→S w1)→(done.setIfInBounds j true).getD z true=false→S w1:=fun _ w1 q h=>q (by
     rw [Array.setIfInBounds_comm _ _ (Ne.symm e),getD_set_ne true hiz];exact h)
    refine wpOp_mono (fun a1 w1 h3=>⟨hst a1 w1 h3.2.1,ih (done.setIfInBounds j true) a1 w1 ?_ (ready_mono hr (Ne.symm e)) h3.1 (hst a1 w1 h3.2.1) ?_⟩) h2
    ·intro q oq hq hqi hqu hqn
     refine hfree q oq hq hqi ?_ hqn
     by_cases hjq:j=q
     ·rw [←hjq];exact hjun
     ·rw [getD_set_ne true hjq] at hqu;exact hqu
    ·rw [Array.setIfInBounds_comm _ _ e]
     exact h3.2.2
theorem wpM_takeP {z i:Nat} {oi:Oper} {v:Value} {k:Nat} {done:Array Bool} {a:Act} {w:World} (hiz:i≠z) (hi:ops[i]? = some oi)
 (hs:Region.noSelect ops=true) (hf:Region.free md ops done i=true) (hr:(Region.ready md ops done).contains i=true) (hQ:∀ c a w,Q (.panic c) (a.put oi.dst v) w→Q (.panic c) a w) (hy:YieldsIf P ops (fun _=>True) oi v a) (hS:S w)
 (h:wpM P md ops Q S z k (done.setIfInBounds i true) (a.put oi.dst v) w):wpM P md ops Q S z (k+1) done a w :=
 wpM_firstP hi (Region.noSelect_spec hs) hQ hiz k done a w (Region.free_spec hi hf) (by simpa using hr) hy (fun _=>hS) h
theorem zf {z i:Nat} {oi:Oper} {v:Value} {k:Nat} {done:Array Bool} {a:Act} {w:World} (p:List Nat) (hp:(chainB md ops i p && p.contains z && p.all fun q=>done.getD q true == false)=true) (hi:ops[i]? = some oi)
 (hs:Region.noSelect ops=true) (hf:Region.free md ops done i=true) (hr:(Region.ready md ops done).contains i=true) (hQ:∀ c a w,Q (.panic c) (a.put oi.dst v) w→Q (.panic c) a w) (hy:YieldsIf P ops S oi v a) (hS:S w)
 (h:wpM P md ops Q S z k (done.setIfInBounds i true) (a.put oi.dst v) w):wpM P md ops Q S z (k+1) done a w:=by
 simp only [Bool.and_eq_true,List.all_eq_true,beq_iff_eq] at hp
 exact wpM_first hi (Region.noSelect_spec hs) hQ p hp.1.1 (by simpa using hp.1.2) k done a w (Region.free_spec hi hf) (by simpa using hr) hp.2 hy hS h
theorem wpM_all {z:Nat} {rs:List Nat} {k:Nat} {done:Array Bool} {a:Act} {w:World} (hr:Region.ready md ops done=rs) (hne:rs≠[])
 (h:∀ i ∈ rs,wpOp P ops Q i (fun a1 w1=>((done.setIfInBounds i true).getD z true=false→S w1)∧wpM P md ops Q S z k (done.setIfInBounds i true) a1 w1) a w):wpM P md ops Q S z (k+1) done a w :=
 ⟨fun h0=>absurd (hr▸h0) hne,hr▸h⟩
theorem wpM_one {z i:Nat} {k:Nat} {done:Array Bool} {a:Act} {w:World} (hr:Region.ready md ops done=[i])
 (h:wpOp P ops Q i (fun a1 w1=>((done.setIfInBounds i true).getD z true=false→S w1)∧wpM P md ops Q S z k (done.setIfInBounds i true) a1 w1) a w):wpM P md ops Q S z (k+1) done a w :=
 wpM_all hr (by simp) (fun j hj=>by
  have e:j=i:=by simpa using hj
  subst e;exact h)
theorem wpM_done {z:Nat} {done:Array Bool} {a:Act} {w:World} (hr:Region.ready md ops done=[]) (h:Q .normal a w):∀ k,wpM P md ops Q S z k done a w
 | 0=>⟨hr,h⟩
 | _+1=>⟨fun _=>h,by rw [hr];simp⟩
theorem wp_region_M {id:Nat} {a:Act} {w:World} (z:Nat) (hm:P.follows .mixedOrders=true)
 (h:wpM P .any ops Q S z ops.size (Array.replicate ops.size false) a { w with drawn:=w.drawn+1 }):(Code.region id ops true).wp P Q a w :=
 wp_region_any hm (wpM_any z _ _ _ _ h)
theorem late {b:Bool} (e:b=true) (h:b=false):False:=by rw [e] at h;cases h
end
end Go.Proofs.YtpkhdihoijkamaaGreatDoor.D
namespace Go.Proofs.YtpkhdihoijkamaaGreatDoor.U
open Go.ChangeShapes Go.WideShapes Go.ChangeAt Go.RowKit Go.Deep Go.Maps
open Go.Proofs.YtpkhdihoijkamaaGreatDoor.D
theorem cmd_at {c:CmD} (h:c.f=0):0≤c.at'∧c.at'≤7:=by
 unfold CmD.f at h
 by_cases ho:1≤c.op∧c.op≤9
 case neg=>rw [K.cmdF_op ho] at h;omega
 by_cases hw:c.who<1∨4<c.who
 case pos=>rw [K.cmdF_who ho hw] at h;omega
 by_cases hn:K.qi (K.lg c.op) (K.ku c.op) (K.lh c.op) c.key c.new c.at'=0
 case neg=>rw [K.cmdF_nums ho hw hn] at h;exact absurd h hn
 have h3:K.mg c.at' (K.lh c.op) 7=0:=by
  unfold K.qi at hn
  split at hn
  ·contradiction
  ·split at hn
   ·contradiction
   ·exact hn
 exact Go.Proofs.YtpkhdihoijkamaaGreatDoor.chkN_0 h3
theorem wp_region_VM {P:Program} {S:World→Prop} {Q:Exit→Act→World→Prop} {id:Nat} {ops:Array Oper} {a:Act} {w:World} (z:Nat) (hm:P.follows .mixedOrders=true)
 (h:∀ V,w.drew=V→Below w.heap.size w V→V.heap.size=w.heap.size→wpM P .any ops Q S z ops.size (Array.replicate ops.size false) a V):(Code.region id ops true).wp P Q a w :=
 wp_region_M (S:=S) z hm (h w.drew rfl (Below.refl _ _).drew rfl)
theorem tookTI {M:TM} {N:Nat} (h:TI M N) (c:CmD):TI (iw M c) N:=by
 refine ⟨fun m hm=>⟨(h.fl m hm).d0,(h.fl m hm).d3,(h.fl m hm).k8,(h.fl m hm).t1,(h.fl m hm).tn⟩,h.wv,h.ws,h.fn,h.dn,h.n0,h.nn,fun j hj=>?_⟩
 show (upd M.L c.j (M.L c.j).tail j).length≤5
 unfold upd
 split
 ·rename_i e;rw [←e,List.length_tail];have:=h.bl j hj;omega
 ·exact h.bl j hj
theorem takeB_any {w0 w:World} {t:Nat} {M:TM} {p:TP} (h:aa w0 w t M p) (c:CmD) (hx:1≤c.who∧c.who≤4) (hl:∀ j,j<4→(M.L j).length≤5) :
 Calls Tryz.prog 68 #[Go.Proofs.YtpkhdihoijkamaaGreatDoor.bx p.A p.N p.C,.int .i64 c.who] w fun r w'=>∃ A N C,r=.returned (.tuple #[Go.Proofs.YtpkhdihoijkamaaGreatDoor.bx A N C,.int .i64 (Go.Proofs.YtpkhdihoijkamaaGreatDoor.jf (M.L c.j))])∧Below w.heap.size w w' ∧
  ∃ w2 p2,(Instr.storeAt 103 (.pointer (some ⟨t,79,.none⟩)) (Go.Proofs.YtpkhdihoijkamaaGreatDoor.bx A N C)).run Tryz.prog w'=.ok () w2∧aa w0 w2 t (iw M c) p2∧p2.k=p.k∧p2.b=p.b∧ae p.F p2.F w w2∧ae (Is t) (Is t) w' w2:=by
 refine (Go.Proofs.YtpkhdihoijkamaaGreatDoor.take_fresh p.A p.N p.C M.L c.j c.who 0 w (by unfold CmD.j;omega) (by unfold CmD.j;omega) h.bx (Nat.zero_le _) (fun j hj=>by have:=hl j hj;omega)).mono ?_
 rintro r w' ⟨A,N,C,rfl,hB,hb,hf⟩
 obtain ⟨w2,p2,h1,h2,h3,h4,h5,h6⟩:=h.putB hb hB (fun j _=>hf j)
 exact ⟨A,N,C,rfl,hb,w2,p2,h1,h2,h4,h3,h5,h6⟩
theorem abp {P:Program} {fn:Func} {q r t u:Tmp} {tmps:Array Value} {w:World} (h:fn.results=#[.tmp q,.tmp r,.tmp t,.tmp u]):(results fn tmps).run P w=.ok (.tuple #[tmps.getD q undef,tmps.getD r undef,tmps.getD t undef,tmps.getD u undef]) w:=by
 simp [results,h]
theorem zu {w0 wa:World} {t:Nat} {Ma:TM} {pa:TP} (h:aa w0 wa t Ma pa) (hL:K.Laid w0) {N:Nat} (hI:TI Ma N) (hN:N<1000000) (c:CmD) (hop:(Lit.int .i64 c.op).wf=true) (hd:c.da.size≤9223372036854775807) (hw:c.wa.size≤9223372036854775807) :
 Calls Tryz.prog 36 #[.pointer (some ⟨t,0,.none⟩),.agg c.vs.toArray] wa fun r w'=>r=.returned (.tuple #[.string (av Ma c).1.data,.int .i64 (av Ma c).1.tag,.int .i64 (av Ma c).1.what,ai (av Ma c).1.f]) ∧
  ∃ p',aa w0 w' t (av Ma c).2 p'∧p'.k=pa.k∧p'.b=pa.b∧ae pa.F p'.F wa w':=by
 obtain ⟨X,hX,a0,bX,sX⟩:=Go.Proofs.YtpkhdihoijkamaaGreatDoor.D.one wa (.cells c.vs.toArray 24)
 have A3:At X wa.heap.size c.vs 24:=a0
 have HTa:Hid (aa w0 X t Ma pa):=h.later bX
 have HMa:Hid (ae pa.F pa.F wa X):=ae.of bX (Nat.le_refl _)
 have hoff:¬pa.F wa.heap.size:=fun f=>by have:=h.foot _ f;omega
 have HLC:Hid ((Instr.loadAt 24 (.pointer (some ⟨wa.heap.size,0,.none⟩))).run Tryz.prog X=.ok (.agg c.vs.toArray) X):=vv A3
 have HI:Hid (TI Ma N∧N<1000000∧K.Laid w0):=⟨hI,hN,hL⟩
 have HCK:Hid (Calls Tryz.prog 17 #[.agg c.vs.toArray] X fun r w'=>r=.returned (ai c.f)∧Below X.heap.size X w'):=K.aas c.op c.who c.key c.new c.ty c.at' c.st c.da c.wa hop hd hw X
 clear a0 bX sX h hL hI hN hop hd hw
 go_enter Tryz.func36,Tryz.ntmps36
 go_upto_region 1 with fail
 rw [←hX]
 clear hX
 obtain ⟨b3,hb3⟩:∃ b3,wa.heap.size=b3:=⟨_,rfl⟩
 rw [hb3] at A3 hoff HLC ⊢
 clear hb3
 have HA:Hid (At X b3 c.vs 24∧¬pa.F b3):=⟨A3,hoff⟩
 clear A3 hoff
 go_wp2_with (with_reducible refine ak HLC.out rfl rfl ?_)
 refine HCK.out.mono ?_
 rintro r W ⟨rfl,b1⟩
 replace HTa:Hid (aa w0 W t Ma pa):=HTa.out.later b1
 replace HMa:Hid (ae pa.F pa.F wa W):=HMa.out.trans (ae.of b1 (Nat.le_refl _))
 replace HA:Hid (At W b3 c.vs 24∧¬pa.F b3):=⟨HA.out.1.later b1 HA.out.1.lt,HA.out.2⟩
 clear b1 HLC HCK
 by_cases hc:c.f=0
 case neg =>
  have HX:Hid (av Ma c=(⟨ll,0,0,c.f⟩,Ma)):=by show _=_;unfold av;rw [if_neg hc]
  have HE:Hid (ai c.f=.iface 96 (.int .i64 c.f)):=ut hc
  rw [HE.out]
  clear hc
  go_wp2
  exact bodyPost_ret (abp Tryz.results36) rfl ⟨by rw [HX.out,HE.out];rfl,pa,by rw [HX.out];exact HTa.out,rfl,rfl,HMa.out⟩
 have HX:Hid (av Ma c=if Go.Proofs.YtpkhdihoijkamaaGreatDoor.jf (Ma.L c.j)=0 then kr (iw Ma c) c else (⟨ll,0,Go.Proofs.YtpkhdihoijkamaaGreatDoor.jf (Ma.L c.j),0⟩,iw Ma c)):=by show _=_;unfold av;rw [if_pos hc]
 have HC:Hid (c.f=0∧1≤c.who∧c.who≤4):=by have:=Go.Proofs.YtpkhdihoijkamaaGreatDoor.cmd_ok hc;exact ⟨hc,this.who1,this.who4⟩
 rw [hc,show ai 0=.nilIface from rfl]
 clear hc
 go_upto_region 3 with fail
 refine wp_region_VM 13 (S:=fun w'=>aa w0 w' t Ma pa∧At w' b3 c.vs 24) (by kernel_rfl) ?_
 intro V hV bV sV
 replace HTa:Hid (aa w0 V t Ma pa):=HTa.out.later bV
 replace HMa:Hid (ae pa.F pa.F wa V):=HMa.out.trans (ae.of bV (Nat.le_refl _))
 replace HA:Hid (At V b3 c.vs 24∧¬pa.F b3):=⟨HA.out.1.later bV HA.out.1.lt,HA.out.2⟩
 have HS:Hid (aa w0 V t Ma pa∧At V b3 c.vs 24):=⟨HTa.out,HA.out.1⟩
 clear hV bV sV
 refine zf (i:=0) (v:=.pointer (some ⟨t,0,.none⟩)) [13,12,11] (by kernel_rfl) rfl (by kernel_rfl) (by kernel_rfl) (by kernel_rfl) (fun _ _ _ h=>h) (.inl ⟨rfl,fun w' hw'=>?_⟩) HS.out ?_
 ·go_simp
 refine zf (i:=1) (v:=.pointer (some ⟨t,0,.none⟩)) [13,7,4,3,2] (by kernel_rfl) rfl (by kernel_rfl) (by kernel_rfl) (by kernel_rfl) (fun _ _ _ h=>h) (.inl ⟨rfl,fun w' hw'=>?_⟩) HS.out ?_
 ·go_simp
 refine zf (i:=2) (v:=.pointer (some ⟨t,0,.none⟩)) [13,7,4,3] (by kernel_rfl) rfl (by kernel_rfl) (by kernel_rfl) (by kernel_rfl) (fun _ _ _ h=>h) (.inl ⟨rfl,fun w' hw'=>?_⟩) HS.out ?_
 ·go_simp
 (try simp [Act.put])
 refine zf (i:=3) (v:=.pointer (some ⟨t,79,.none⟩)) [13,7,4] (by kernel_rfl) rfl (by kernel_rfl) (by kernel_rfl) (by kernel_rfl) (fun _ _ _ h=>h) (.inl ⟨rfl,fun w' hw'=>?_⟩) HS.out ?_
 ·go_simp
 refine zf (i:=4) (v:=Go.Proofs.YtpkhdihoijkamaaGreatDoor.bx pa.A pa.N pa.C) [13,7] (by kernel_rfl) rfl (by kernel_rfl) (by kernel_rfl) (by kernel_rfl) (fun _ _ _ h=>h) (.inl ⟨rfl,fun w' hw'=>?_⟩) HS.out ?_
 ·exact jc hw'.1.loadB rfl
 refine zf (i:=5) (v:=.pointer (some ⟨b3,1,.none⟩)) [13,7,6] (by kernel_rfl) rfl (by kernel_rfl) (by kernel_rfl) (by kernel_rfl) (fun _ _ _ h=>h) (.inl ⟨rfl,fun w' hw'=>?_⟩) HS.out ?_
 ·go_simp
 (try simp [Act.put])
 refine zf (i:=6) (v:=.int .i64 c.who) [13,7] (by kernel_rfl) rfl (by kernel_rfl) (by kernel_rfl) (by kernel_rfl) (fun _ _ _ h=>h) (.inl ⟨rfl,fun w' hw'=>?_⟩) HS.out ?_
 ·have hc:w'.cell? ⟨b3,1,.none⟩=some (.int .i64 c.who):=hw'.2.cell 1;go_simp
 (try simp [Act.put])
 refine wpM_one (i:=7) (by kernel_rfl) ?_
 refine wpS ?_
 go_wp2_with fail
 refine (takeB_any HTa.out c HC.out.2 HI.out.1.bl).mono ?_
 rintro r W1 ⟨A,N',C,rfl,hb,w,p,hst,t2,k2,b2,m2,mT⟩
 have HS2:Hid (aa w0 W1 t Ma pa∧At W1 b3 c.vs 24):=⟨HTa.out.later hb,HA.out.1.later hb HA.out.1.lt⟩
 have HST:Hid ((Instr.storeAt 103 (.pointer (some ⟨t,79,.none⟩)) (Go.Proofs.YtpkhdihoijkamaaGreatDoor.bx A N' C)).run Tryz.prog W1=.ok () w):=hst
 obtain ⟨M,hM⟩:∃ M,iw Ma c=M:=⟨_,rfl⟩
 rw [hM] at HX t2
 have HT:Hid (aa w0 w t M p):=t2
 have HKB:Hid (p.k=pa.k∧p.b=pa.b):=⟨k2,b2⟩
 have HTI:Hid (TI M N):=by show TI M N;rw [←hM];exact tookTI HI.out.1 c
 have HA2:Hid (At w b3 c.vs 24∧¬p.F b3):=⟨m2.at HA.out.1 HA.out.2,m2.not HA.out.1.lt HA.out.2⟩
 replace HMa:Hid (ae pa.F p.F wa w):=HMa.out.trans m2
 obtain ⟨wh,hwh⟩:∃ wh,Go.Proofs.YtpkhdihoijkamaaGreatDoor.jf (Ma.L c.j)=wh:=⟨_,rfl⟩
 rw [hwh] at HX ⊢
 clear hb hst t2 k2 b2 m2 mT hM hwh HTa HA HS
 refine ⟨HS2.out,?_⟩
 (try simp [Act.put])
 refine zf (i:=8) (v:=.tuple #[Go.Proofs.YtpkhdihoijkamaaGreatDoor.bx A N' C,.int .i64 wh]) [13,9] (by kernel_rfl) rfl (by kernel_rfl) (by kernel_rfl) (by kernel_rfl) (fun _ _ _ h=>h) (.inl ⟨rfl,fun w' hw'=>?_⟩) HS2.out ?_
 ·go_simp
 refine zf (i:=9) (v:=Go.Proofs.YtpkhdihoijkamaaGreatDoor.bx A N' C) [13] (by kernel_rfl) rfl (by kernel_rfl) (by kernel_rfl) (by kernel_rfl) (fun _ _ _ h=>h) (.inl ⟨rfl,fun w' hw'=>?_⟩) HS2.out ?_
 ·go_simp
 refine zf (i:=11) (v:=.pointer (some ⟨t,0,.none⟩)) [13,12] (by kernel_rfl) rfl (by kernel_rfl) (by kernel_rfl) (by kernel_rfl) (fun _ _ _ h=>h) (.inl ⟨rfl,fun w' hw'=>?_⟩) HS2.out ?_
 ·go_simp
 (try simp [Act.put])
 refine zf (i:=12) (v:=.pointer (some ⟨t,79,.none⟩)) [13] (by kernel_rfl) rfl (by kernel_rfl) (by kernel_rfl) (by kernel_rfl) (fun _ _ _ h=>h) (.inl ⟨rfl,fun w' hw'=>?_⟩) HS2.out ?_
 ·go_simp
 (try simp [Act.put])
 refine wpM_takeP (i:=10) (v:=.int .i64 wh) (by decide) rfl (by kernel_rfl) (by kernel_rfl) (by kernel_rfl) (fun _ _ _ h=>h) (.inl ⟨rfl,fun w' hw'=>?_⟩) HS2.out ?_
 ·go_simp
 (try simp [Act.put])
 refine wpM_one (i:=13) (by kernel_rfl) ?_
 refine Go.Proofs.YtpkhdihoijkamaaGreatDoor.D.ma HST.out rfl rfl rfl rfl ⟨fun h=>(late (by kernel_rfl) h).elim,?_⟩
 clear HST HS2
 refine wpM_one (i:=14) (by kernel_rfl) ?_
 refine wpS ?_
 go_wp2_with fail
 refine wpM_done (by kernel_rfl) ?_ _
 (try simp [Act.put])
 by_cases hwh:wh=0
 case neg =>
  rw [if_neg hwh] at HX
  have hwB:(wh == 0)=false:=beq_eq_false_iff_ne.2 hwh
  clear hwh
  go_wp2
  exact bodyPost_ret (abp Tryz.results36) rfl ⟨by rw [HX.out];rfl,p,by rw [HX.out];exact HT.out,HKB.out.1,HKB.out.2,HMa.out⟩
 rw [if_pos hwh] at HX
 rw [hwh]
 clear hwh
 have c0:w.cell? ⟨b3,0,.none⟩=some (.int .i64 c.op):=HA2.out.1.cell 0
 have HLC:Hid ((Instr.loadAt 24 (.pointer (some ⟨b3,0,.none⟩))).run Tryz.prog w=.ok (.agg c.vs.toArray) w):=vv HA2.out.1
 obtain ⟨k,hk⟩:∃ k:Nat,c.at'=k∧k<8:=by have:=cmd_at HC.out.1;exact ⟨c.at'.toNat,by omega,by omega⟩
 have HK:Hid (c.at'=k∧k<8):=hk
 clear hk HA2
 by_cases h7:c.op=7
 ·have HX2:Hid (av Ma c=(⟨(j4 M c).1,0,0,(j4 M c).2.1⟩,(j4 M c).2.2)):=by show _=_;rw [HX.out];unfold kr;rw [if_pos h7]
  rw [h7] at c0
  clear h7
  go_wp2_with (with_reducible refine ak HLC.out rfl rfl ?_)
  refine (read_any HT.out c k HK.out.1 HK.out.2).mono ?_
  rintro r w2 ⟨rfl,t3,m3⟩
  have HR:Hid (∃ p',aa w0 w2 t (av Ma c).2 p'∧p'.k=pa.k∧p'.b=pa.b∧ae pa.F p'.F wa w2):=⟨p,by rw [HX2.out];exact t3,HKB.out.1,HKB.out.2,HMa.out.trans m3⟩
  clear t3 m3
  go_wp2
  exact bodyPost_ret (abp Tryz.results36) rfl ⟨by rw [HX2.out];rfl,HR.out⟩
 have h7b:(c.op == 7)=false:=beq_eq_false_iff_ne.2 h7
 by_cases h8:c.op=8
 ·have HX2:Hid (av Ma c=(⟨ll,(qb M c).1,0,(qb M c).2.1⟩,(qb M c).2.2)):=by show _=_;rw [HX.out];unfold kr;rw [if_neg h7];rw [if_pos h8]
  rw [h8] at c0
  clear h8 h7
  go_wp2_with (with_reducible refine ak HLC.out rfl rfl ?_)
  refine (write_any HT.out HTI.out HI.out.2.1 c k HK.out.1).mono ?_
  rintro r w2 ⟨rfl,p3,t3,k3,b3',m3⟩
  have HR:Hid (∃ p',aa w0 w2 t (av Ma c).2 p'∧p'.k=pa.k∧p'.b=pa.b∧ae pa.F p'.F wa w2):=⟨p3,by rw [HX2.out];exact t3,k3.trans HKB.out.1,b3'.trans HKB.out.2,HMa.out.trans m3⟩
  clear t3 k3 b3' m3
  go_wp2
  exact bodyPost_ret (abp Tryz.results36) rfl ⟨by rw [HX2.out];rfl,HR.out⟩
 have h8b:(c.op == 8)=false:=beq_eq_false_iff_ne.2 h8
 by_cases h9:c.op=9
 ·have HX2:Hid (av Ma c=(⟨ll,(jg M c).1,0,(jg M c).2.1⟩,(jg M c).2.2)):=by show _=_;rw [HX.out];unfold kr;rw [if_neg h7,if_neg h8];rw [if_pos h9]
  rw [h9] at c0
  clear h9 h8 h7
  go_wp2_with (with_reducible refine ak HLC.out rfl rfl ?_)
  refine (compare_any HT.out HTI.out HI.out.2.1 c k HK.out.1 HK.out.2).mono ?_
  rintro r w2 ⟨rfl,p3,t3,k3,b3',m3⟩
  have HR:Hid (∃ p',aa w0 w2 t (av Ma c).2 p'∧p'.k=pa.k∧p'.b=pa.b∧ae pa.F p'.F wa w2):=⟨p3,by rw [HX2.out];exact t3,k3.trans HKB.out.1,b3'.trans HKB.out.2,HMa.out.trans m3⟩
  clear t3 k3 b3' m3
  go_wp2
  exact bodyPost_ret (abp Tryz.results36) rfl ⟨by rw [HX2.out];rfl,HR.out⟩
 have h9b:(c.op == 9)=false:=beq_eq_false_iff_ne.2 h9
 have HX2:Hid (av Ma c=(⟨ll,0,0,(lu M c).1⟩,(lu M c).2)):=by show _=_;rw [HX.out];unfold kr;rw [if_neg h7,if_neg h8,if_neg h9]
 clear h7 h8 h9
 go_wp2_with (with_reducible refine ak HLC.out rfl rfl ?_)
 refine (change_any HT.out HI.out.2.2 c HC.out.1 HTI.out.bl).mono ?_
 rintro r w2 ⟨rfl,p3,t3,k3,b3',m3⟩
 have HR:Hid (∃ p',aa w0 w2 t (av Ma c).2 p'∧p'.k=pa.k∧p'.b=pa.b∧ae pa.F p'.F wa w2):=⟨p3,by rw [HX2.out];exact t3,k3.trans HKB.out.1,b3'.trans HKB.out.2,HMa.out.trans m3⟩
 clear t3 k3 b3' m3
 go_wp2
 exact bodyPost_ret (abp Tryz.results36) rfl ⟨by rw [HX2.out];rfl,HR.out⟩
theorem padS_l {x:List UInt8} (h:x.length≤64):(gm x).length=64:=by rw [pad_is h,List.length_append,List.length_replicate];omega
theorem store_is {D:DM} (h:Go.Proofs.YtpkhdihoijkamaaGreatDoor.D.Calm D) (ok:D.OK 10) {t:List UInt8} (ht:t.length≤64):lw D 10 t=setD { putD D 0 t with kept:=(putD D 0 t).now } 10:=by
 have hf:pz D 10 0 t=0:=by rw [h.pz,if_pos ⟨hasD0 ok,ht⟩]
 unfold lw
 rw [if_pos hf,(h.write 10 0 t).flush 10,h.qd,if_pos ⟨hasD0 ok,ht⟩]
 rfl
theorem store_okC {D:DM} (h:Go.Proofs.YtpkhdihoijkamaaGreatDoor.D.Calm D) (ok:D.OK 10) {t:List UInt8} (ht:t.length≤64):(lw D 10 t).OK 10:=by
 rw [store_is h ok ht]
 have hm:∀ x ∈ D.now.set 0 (gm t),x.length=64:=by
  intro x hx
  rcases List.mem_or_eq_of_mem_set hx with h1|rfl
  ·exact ok.ml x h1
  ·exact padS_l ht
 exact ⟨by show (D.now.set 0 (gm t)).length=10;rw [List.length_set,ok.m],by show (D.now.set 0 (gm t)).length=10;rw [List.length_set,ok.m],by show (List.replicate 10 []).length=10;simp,by decide,by decide,hm,hm,
  fun l hl=>by
   have:l=[]:=List.eq_of_mem_replicate hl
   subst this
   exact ⟨fun x hx=>by simp at hx,List.nodup_nil⟩,by show 0<64;decide,ok.lo,ok.hi⟩
structure SI (M:TM):Prop where
 ck:Ck M.D (gm (df M.e M.s))
 calm:Go.Proofs.YtpkhdihoijkamaaGreatDoor.D.Calm M.D
 ok:M.D.OK 10
 f:M.s.f=0
 e1:1≤M.e
 e9:M.e≤1000000
theorem SI.keep {M:TM} (h:SI M) {e:Int} {s:KS} (he:okE e) (hs:s.f=0):vo M e s=0∧(j5 M e s).e=e∧(j5 M e s).s=s∧SI (j5 M e s):=by
 have ht:=abe he.2 hs
 obtain ⟨h1,h2⟩:=keepF_is (D:=M.D) (n:=10) he hs
 have h3:=store_calm h.calm h.ok (df e s) ht
 have h4:vo M e s=0:=h1.trans h3.1
 have h5:Go.Proofs.YtpkhdihoijkamaaGreatDoor.D.uu M.D 10 M.e M.s e s=(e,s):=by unfold Go.Proofs.YtpkhdihoijkamaaGreatDoor.D.uu;rw [if_pos (show keepF M.D 10 e s=0 from h4)]
 have h6:j5 M e s={ M with e:=e,s:=s,D:=lw M.D 10 (df e s) }:=by unfold j5;rw [h5,h2]
 refine ⟨h4,by rw [h6],by rw [h6],?_⟩
 rw [h6]
 refine ⟨?_,h3.2,store_okC h.calm h.ok ht,hs,he.1,he.2⟩
 rcases store_ck h.ck h.ok (df e s) ht with ⟨_,h7⟩|⟨h7,_⟩
 ·exact h7
 ·rw [h3.1] at h7;exact absurd h7 (by decide)
theorem keepM_rest {M:TM} (h:SI M) {e:Int} {s:KS} (he:okE e) (hs:s.f=0):∃ D',j5 M e s={ M with e:=e,s:=s,D:=D' }∧SI (j5 M e s):=by
 obtain ⟨_,h1,h2,h3⟩:=h.keep he hs
 refine ⟨keepD M.D 10 e s,?_,h3⟩
 have:j5 M e s={ M with e:=(j5 M e s).e,s:=(j5 M e s).s,D:=keepD M.D 10 e s }:=rfl
 rw [h1,h2] at this
 exact this
theorem SI.with {M M':TM} (h:SI M) (he:M'.e=M.e) (hs:M'.s=M.s) (hD:M'.D=M.D):SI M':=⟨by rw [he,hs,hD];exact h.ck,by rw [hD];exact h.calm,by rw [hD];exact h.ok,by rw [hs];exact h.f,by rw [he];exact h.e1,by rw [he];exact h.e9⟩
theorem memL_len3 (rs:List G.Rep) (up:List Bool) (e:Int):(G.cz rs up e 3).length=(if G.takes rs up e 0=true then 1 else 0)+(if G.takes rs up e 1=true then 1 else 0)+(if G.takes rs up e 2=true then 1 else 0):=by
 simp only [G.cz]
 repeat' split
 all_goals simp
theorem ready2 {rs:List G.Rep} {up:List Bool} (ok:G.GOK rs up) (e:Int) (h:2≤(G.cz rs up e 3).length):2≤(G.cz (G.d9 rs up (e+1)) up (e+1) 3).length:=by
 have key:∀ i:Nat,i<3→G.takes rs up e i=true→G.takes (G.d9 rs up (e+1)) up (e+1) i=true:=by
  intro i hi ht
  have hg:=G.abq ok (e+1) i hi
  rw [show e+1 - 1=e by omega,if_pos ⟨h,ht⟩] at hg
  unfold G.takes at ht ⊢
  simp only [Bool.and_eq_true] at ht ⊢
  refine ⟨ht.1,?_⟩
  have:((G.d9 rs up (e+1)).getD i ⟨0,[]⟩).f=e+1:=by
   have h9:=congrArg G.Rep.f hg
   simpa [G.ah] using h9
  rw [this];simp
 rw [memL_len3] at h ⊢
 have k0:=key 0 (by decide)
 have k1:=key 1 (by decide)
 have k2:=key 2 (by decide)
 by_cases t0:G.takes rs up e 0=true <;> by_cases t1:G.takes rs up e 1=true <;> by_cases t2:G.takes rs up e 2=true <;> simp_all
theorem fenG_ok' {rs:List G.Rep} {up:List Bool} (h:G.GOK rs up) (e:Int):G.GOK (G.d9 rs up e) up:=G.fenG_ok h e
theorem yx {M:TM} (h:SI M) (ok:G.GOK M.rs M.up) {s:KS} (hs:s.f=0):(mi M=false∧gq M s=(7,M))∨(mi M=true∧M.e=1000000∧gq M s=(6,dx M)) ∨
 (mi M=true∧M.e<1000000∧∃ D',gq M s=(0,{ M with e:=M.e+1,s:=s,D:=D',rs:=G.d9 (G.d9 M.rs M.up M.e) M.up (M.e+1),nm:=0,W:=.map [] })∧SI (gq M s).2):=by
 cases hr:mi M
 ·exact .inl ⟨rfl,by unfold gq;rw [if_neg (by rw [hr];simp)]⟩
 refine .inr ?_
 have hb:gq M s=uk (dx M) s:=by unfold gq;rw [if_pos hr]
 have hrm:dx M={ M with rs:=G.d9 M.rs M.up M.e }:=by unfold dx;rw [if_pos hr]
 by_cases he:M.e=1000000
 ·refine .inl ⟨rfl,he,?_⟩
  rw [hb]
  unfold uk
  rw [if_pos (by rw [hrm];exact he)]
 refine .inr ⟨rfl,by have:=h.e9;omega,?_⟩
 have h1:SI (dx M):=h.with (by rw [hrm]) (by rw [hrm]) (by rw [hrm])
 have hoe:okE ((dx M).e+1):=by rw [hrm];exact ⟨by have:=h.e1;show 1≤M.e+1;omega,by have:=h.e9;show M.e+1≤1000000;omega⟩
 have h2:=h1.keep hoe h1.f
 obtain ⟨D1,hk,h3⟩:=keepM_rest h1 hoe h1.f
 have hw:wiped (j5 (dx M) ((dx M).e+1) (dx M).s)={ M with e:=M.e+1,D:=D1,rs:=G.d9 M.rs M.up M.e,nm:=0,W:=.map [] }:=by rw [hk,hrm];rfl
 have h4:SI (wiped (j5 (dx M) ((dx M).e+1) (dx M).s)):=h3.with rfl rfl rfl
 have hb1:uk (dx M) s=ve (wiped (j5 (dx M) ((dx M).e+1) (dx M).s)) s:=by
  unfold uk
  rw [if_neg (by rw [hrm];exact he),if_pos h2.1]
 have hrd:mi (wiped (j5 (dx M) ((dx M).e+1) (dx M).s))=true:=by
  rw [hw]
  unfold mi at hr ⊢
  have:=ready2 (fenG_ok' ok M.e) M.e (of_decide_eq_true hr)
  exact decide_eq_true this
 obtain ⟨M2,hM2⟩:∃ M2,wiped (j5 (dx M) ((dx M).e+1) (dx M).s)=M2:=⟨_,rfl⟩
 rw [hM2] at hw h4 hb1 hrd
 have hr2:dx M2={ M2 with rs:=G.d9 M2.rs M2.up M2.e }:=by unfold dx;rw [if_pos hrd]
 have h5:SI (dx M2):=h4.with (by rw [hr2]) (by rw [hr2]) (by rw [hr2])
 have hoe2:okE M2.e:=⟨h4.e1,h4.e9⟩
 have h6:=h5.keep hoe2 hs
 obtain ⟨D2,hk2,h7⟩:=keepM_rest h5 hoe2 hs
 have hb2:ve M2 s=(0,j5 (dx M2) M2.e s):=by unfold ve;rw [if_pos hrd,h6.1]
 refine ⟨D2,?_,?_⟩
 ·rw [hb,hb1,hb2,hk2,hr2,hw]
 ·rw [hb,hb1,hb2];exact h7
theorem TI.mono {M:TM} {N N':Nat} (h:TI M N) (hN:N≤N'):TI M N':=⟨h.fl,h.wv,h.ws,h.fn,Nat.le_trans h.dn hN,h.n0,h.nn,h.bl⟩
theorem TI.with {M M':TM} {N:Nat} (h:TI M N) (h1:M'.fly=M.fly) (h2:M'.dn=M.dn) (h3:M'.L=M.L) (h4:(M'.W=M.W∧M'.nm=M.nm)∨(M'.W=.map []∧M'.nm=0)):TI M' N:=by
 refine ⟨fun m hm=>?_,fun tag=>?_,?_,by rw [h1];exact h.fn,by rw [h2];exact h.dn,?_,?_,by rw [h3];exact h.bl⟩
 ·have:=h.fl m (by rw [←h1];exact hm)
  exact ⟨this.d0,this.d3,this.k8,this.t1,by rw [h2];exact this.tn⟩
 ·rw [aca]
  rcases h4 with ⟨h4,_⟩|⟨h4,_⟩
  ·rw [h4];exact h.wv tag
  ·rw [h4];exact ⟨Int.le_refl 0,show (0:Int)<8 by decide⟩
 ·rcases h4 with ⟨h4,_⟩|⟨h4,_⟩
  ·rw [h4];exact h.ws
  ·rw [h4];exact Nat.zero_le _
 ·rcases h4 with ⟨_,h4⟩|⟨_,h4⟩
  ·rw [h4];exact h.n0
  ·rw [h4];exact Int.le_refl 0
 ·rw [h2]
  rcases h4 with ⟨_,h4⟩|⟨_,h4⟩
  ·rw [h4];exact h.nn
  ·rw [h4];omega
theorem begin2_rest (M:TM) (s:KS):(ve M s).2.fly=M.fly∧(ve M s).2.dn=M.dn∧(ve M s).2.W=M.W∧(ve M s).2.nm=M.nm:=by
 unfold ve j5 dx
 split <;> exact ⟨rfl,rfl,rfl,rfl⟩
theorem adw (M:TM) (s:KS):(uk M s).2.fly=M.fly∧(uk M s).2.dn=M.dn∧(((uk M s).2.W=M.W∧(uk M s).2.nm=M.nm)∨((uk M s).2.W=.map []∧(uk M s).2.nm=0)):=by
 unfold uk
 split
 ·exact ⟨rfl,rfl,.inl ⟨rfl,rfl⟩⟩
 ·split
  ·have:=begin2_rest (wiped (j5 M (M.e+1) M.s)) s
   exact ⟨this.1,this.2.1,.inr ⟨this.2.2.1,this.2.2.2⟩⟩
  ·exact ⟨rfl,rfl,.inl ⟨rfl,rfl⟩⟩
theorem abn (M:TM):(dx M).fly=M.fly∧(dx M).dn=M.dn∧(dx M).W=M.W∧(dx M).nm=M.nm∧(dx M).L=M.L:=by
 unfold dx
 split <;> exact ⟨rfl,rfl,rfl,rfl,rfl⟩
theorem TI.begin {M:TM} {N:Nat} (h:TI M N) (s:KS):TI (gq M s).2 N:=by
 refine h.with ?_ ?_ (beginM_L M s) ?_
 all_goals unfold gq;split
 ·rw [(adw _ s).1,(abn M).1]
 ·rfl
 ·rw [(adw _ s).2.1,(abn M).2.1]
 ·rfl
 ·have:=(adw (dx M) s).2.2
  rw [(abn M).2.2.1,(abn M).2.2.2.1] at this
  exact this
 ·exact .inl ⟨rfl,rfl⟩
theorem TI.box {M:TM} {N:Nat} (h:TI M N) {L:Nat→List Int} (hL:∀ j,j<4→(L j).length≤5):TI { M with L:=L } N:=⟨fun m hm=>⟨(h.fl m hm).d0,(h.fl m hm).d3,(h.fl m hm).k8,(h.fl m hm).t1,(h.fl m hm).tn⟩,h.wv,h.ws,h.fn,h.dn,h.n0,h.nn,hL⟩
theorem TI.change {M:TM} {N:Nat} (h:TI M N) (c:CmD):TI (lu M c).2 N:=by
 have h1:TI (ol M (c.o M.s)).2 N:=by
  unfold ol
  split
  ·exact h.begin _
  ·exact h.with rfl rfl rfl (.inl ⟨rfl,rfl⟩)
 unfold lu
 split
 ·split
  ·exact h1.box (acu _ h1.bl)
  ·exact h1
 ·exact h
theorem key_lit (tag:Int):WideAt.IsKeyLit (.int .i64 tag):=trivial
theorem atW_put {W:DataW Unit} (hW:Tidy W) (tag c:Int) (t2:Int):atW (W.put (.int .i64 tag) (.lit (.int .u64 c))) t2=if t2=tag then c else atW W t2:=by
 unfold atW
 by_cases e:t2=tag
 ·rw [if_pos e,e,atKey_put_same hW.isMap (key_lit tag)]
 ·rw [if_neg e,atKey_put_other (by simpa using e)]
theorem atW_del {W:DataW Unit} (tag t2:Int):atW (W.del (.int .i64 tag)) t2=if t2=tag then 0 else atW W t2:=by
 unfold atW
 by_cases e:t2=tag
 ·rw [if_pos e,e,atKey_del_same]
 ·rw [if_neg e,atKey_del_other (by simpa using e)]
theorem TI.sent {M:TM} {N:Nat} (h:TI M N) (hW:Tidy M.W) (hf:fullB M=false) (c:CmD) (hc:c.f=0) (rs:List G.Rep):TI { rq M c with rs:=rs } (N+1):=by
 unfold fullB at hf
 simp only [Bool.or_eq_false_iff,decide_eq_false_iff_not] at hf
 have ha:=cmd_at hc
 have hl:(rq M c).dn.length=M.dn.length+1:=by simp [rq]
 have hdn:=h.dn
 refine ⟨fun m hm=>?_,fun tag=>?_,?_,?_,by show (rq M c).dn.length≤N+1;rw [hl];omega,?_,?_,h.bl⟩
 ·have hm':m ∈ M.fly ++ [⟨0,c.at'.toNat,⟨M.e,M.nm+1,c.da⟩,(M.dn.length:Int)+1⟩,⟨1,c.at'.toNat,⟨M.e,M.nm+1,c.da⟩,(M.dn.length:Int)+1⟩,⟨2,c.at'.toNat,⟨M.e,M.nm+1,c.da⟩,(M.dn.length:Int)+1⟩]:=hm
  have hk:c.at'.toNat<8:=by omega
  have ht:(1:Int)≤(M.dn.length:Int)+1:=by omega
  have hd:(M.dn.length:Int)+1≤((rq M c).dn.length:Int):=by rw [hl];omega
  rcases List.mem_append.1 hm' with h1|h1
  ·have:=h.fl m h1
   exact ⟨this.d0,this.d3,this.k8,this.t1,by have:=this.tn;show m.tag≤((rq M c).dn.length:Int);rw [hl];omega⟩
  ·simp only [List.mem_cons,List.not_mem_nil,or_false] at h1
   rcases h1 with rfl|rfl|rfl
   ·exact ⟨Int.le_refl 0,show (0:Int)<3 by decide,hk,ht,hd⟩
   ·exact ⟨show (0:Int)≤1 by decide,show (1:Int)<3 by decide,hk,ht,hd⟩
   ·exact ⟨show (0:Int)≤2 by decide,show (2:Int)<3 by decide,hk,ht,hd⟩
 ·rw [aca]
  show 0≤atW (M.W.put (.int .i64 ((M.dn.length:Int)+1)) (.lit (.int .u64 0))) tag∧atW (M.W.put (.int .i64 ((M.dn.length:Int)+1)) (.lit (.int .u64 0))) tag<8
  rw [atW_put hW]
  split
  ·exact ⟨Int.le_refl 0,by decide⟩
  ·exact h.wv tag
 ·show Maps.size (M.W.put (.int .i64 ((M.dn.length:Int)+1)) (.lit (.int .u64 0)))≤6
  rw [size_put hW]
  split <;> omega
 ·show (M.fly ++ _).length≤40
  rw [List.length_append]
  simp only [List.length_cons,List.length_nil]
  omega
 ·show 0≤M.nm+1
  have:=h.n0;omega
 ·show M.nm+1≤((rq M c).dn.length:Int)
  rw [hl];have:=h.nn;omega
theorem TI.send {M:TM} {N:Nat} (h:TI M N) (hW:Tidy M.W) (c:CmD) (hc:c.f=0):TI (qp M c).2.2 (N+1):=by
 unfold qp
 cases hf:fullB M
 ·rw [if_neg (by simp)];exact h.sent hW hf c hc M.rs
 ·rw [if_pos rfl];exact h.mono (Nat.le_succ _)
theorem allow_W (M:TM) (c:CmD):(ic M c).W=M.W:=by unfold ic;split;exact (abn M).2.2.1;rfl
theorem TI.write {M:TM} {N:Nat} (h:TI M N) (hW:Tidy M.W) (c:CmD) (hc:c.f=0):TI (qb M c).2.2 (N+1):=by
 unfold qb
 split
 ·exact (h.allow c).send (by rw [allow_W];exact hW) c hc
 ·exact (h.allow c).mono (Nat.le_succ _)
theorem TI.compare {M:TM} {N:Nat} (h:TI M N) (hW:Tidy M.W) (c:CmD) (hc:c.f=0):TI (jg M c).2.2 (N+1):=by
 unfold jg
 split
 ·unfold zt
  split
  ·split
   ·cases hf:fullB (ic M c)
    ·rw [if_neg (by simp)];exact (h.allow c).sent (by rw [allow_W];exact hW) hf c hc _
    ·rw [if_pos rfl];exact (h.allow c).mono (Nat.le_succ _)
   ·exact (h.allow c).mono (Nat.le_succ _)
  ·exact (h.allow c).mono (Nat.le_succ _)
 ·exact (h.allow c).mono (Nat.le_succ _)
theorem TI.read {M:TM} {N:Nat} (h:TI M N) (c:CmD):TI (j4 M c).2.2 N:=by
 unfold j4
 split
 ·split
  ·exact (h.allow c).rs _
  ·exact h.allow c
 ·exact h.allow c
theorem TI.ask {M:TM} {N:Nat} (h:TI M N) (hW:Tidy M.W) (c:CmD):TI (av M c).2 (N+1):=by
 unfold av
 split
 ·rename_i hc
  split
  ·have h1:=tookTI h c
   unfold kr
   split
   ·exact (h1.read c).mono (Nat.le_succ _)
   ·split
    ·exact h1.write hW c hc
    ·split
     ·exact h1.compare hW c hc
     ·exact (h1.change c).mono (Nat.le_succ _)
  ·exact (tookTI h c).mono (Nat.le_succ _)
 ·exact h.mono (Nat.le_succ _)
theorem TI.drop {M:TM} {N:Nat} (h:TI M N) (i:Nat):TI (ww M i) N:=by
 have hs:∀ m ∈ M.fly.eraseIdx i,m ∈ M.fly:=fun m hm=>List.mem_of_mem_eraseIdx hm
 refine ⟨fun m hm=>?_,h.wv,h.ws,?_,h.dn,h.n0,h.nn,h.bl⟩
 ·have:=h.fl m (hs m hm)
  exact ⟨this.d0,this.d3,this.k8,this.t1,this.tn⟩
 ·exact Nat.le_trans (List.eraseIdx_sublist M.fly i).length_le h.fn
theorem TI.deliv {M:TM} {N:Nat} (h:TI M N) (m:ed) (i:Nat) (st:Bool):TI (q8 M m i st) N:=by
 unfold q8
 split
 ·exact h.rs _
 ·exact (h.rs _).drop i
theorem TI.count {M:TM} {N:Nat} (h:TI M N) (hW:Tidy M.W) (m:ed) (hm:0≤m.dst∧m.dst<3):TI (qw M m) N:=by
 unfold qw
 split
 ·rename_i hh
  have hb:0≤bitOr (xe M m.tag) m.dst∧bitOr (xe M m.tag) m.dst<8:=by
   have hv:=h.wv m.tag
   rcases (by omega:m.dst=0∨m.dst=1∨m.dst=2) with e|e|e <;> rw [e]
   ·exact or8 _ 1 hv.1 hv.2 (by decide)
   ·exact or8 _ 2 hv.1 hv.2 (by decide)
   ·exact or8 _ 4 hv.1 hv.2 (by decide)
  split
  ·refine ⟨fun x hx=>⟨(h.fl x hx).d0,(h.fl x hx).d3,(h.fl x hx).k8,(h.fl x hx).t1,(h.fl x hx).tn⟩,fun tag=>?_,?_,h.fn,h.dn,h.n0,h.nn,h.bl⟩
   ·rw [aca]
    show 0≤atW (M.W.put _ _) tag∧atW (M.W.put _ _) tag<8
    rw [atW_put hW]
    split
    ·exact hb
    ·exact h.wv tag
   ·show Maps.size (M.W.put _ _)≤6
    rw [size_put hW,if_pos hh]
    exact h.ws
  ·have hl:(M.dn.set (m.tag.toNat - 1) true).length=M.dn.length:=List.length_set
   refine ⟨fun x hx=>⟨(h.fl x hx).d0,(h.fl x hx).d3,(h.fl x hx).k8,(h.fl x hx).t1,?_⟩,fun tag=>?_,?_,h.fn,?_,h.n0,?_,h.bl⟩
   ·show x.tag≤((M.dn.set (m.tag.toNat - 1) true).length:Int);rw [hl];exact (h.fl x hx).tn
   ·rw [aca]
    show 0≤atW (M.W.del _) tag∧atW (M.W.del _) tag<8
    rw [atW_del]
    split
    ·exact ⟨Int.le_refl 0,by decide⟩
    ·exact h.wv tag
   ·show Maps.size (M.W.del _)≤6
    have:=size_del (k:=.int .i64 m.tag) hW
    have:=h.ws
    omega
   ·show (M.dn.set (m.tag.toNat - 1) true).length≤N;rw [hl];exact h.dn
   ·show M.nm≤((M.dn.set (m.tag.toNat - 1) true).length:Int);rw [hl];exact h.nn
 ·exact h
theorem deliv_W (M:TM) (m:ed) (i:Nat) (st:Bool):(q8 M m i st).W=M.W:=by unfold q8 ww;split <;> rfl
theorem TI.deliver {M:TM} {N:Nat} (h:TI M N) (hW:Tidy M.W) (i:Int) (st:Bool):TI (l7 M i st).2.2 N:=by
 unfold l7
 split
 ·exact h
 ·rename_i m hm
  have hmem:m ∈ M.fly:=by
   by_cases h0:0≤i
   ·rw [if_pos h0] at hm;exact List.mem_of_getElem? hm
   ·rw [if_neg h0] at hm;cases hm
  split
  ·exact (h.deliv m i.toNat st).count (by rw [deliv_W];exact hW) m ⟨(h.fl m hmem).d0,(h.fl m hmem).d3⟩
  ·exact h.deliv m i.toNat st
theorem TI.lose {M:TM} {N:Nat} (h:TI M N) (i:Int):TI (ug M i).2 N:=by
 unfold ug
 split
 ·exact h.drop _
 ·exact h
theorem TI.up {M:TM} {N:Nat} (h:TI M N) (i:Int) (b:Bool):TI (upM M i b).2 N:=by
 unfold upM
 split
 ·exact h.with rfl rfl rfl (.inl ⟨rfl,rfl⟩)
 ·exact h
theorem TI.sync {M:TM} {N:Nat} (h:TI M N) (i:Int):TI (qg M i).2 N:=by
 unfold qg
 split
 ·split
  ·exact h.rs _
  ·exact h
 ·exact h
theorem TI.power {M:TM} {N:Nat} (h:TI M N):TI (iq M).2 N:=by
 unfold iq
 split
 ·exact (h.begin _).box (fun j _=>by show (Go.Proofs.YtpkhdihoijkamaaGreatDoor.xm j).length≤5;unfold Go.Proofs.YtpkhdihoijkamaaGreatDoor.xm;decide)
 ·exact h.begin _
def noA:Nat→Option Addr:=fun _=>.none
def noN:Nat→Nat:=fun _=>0
def noL:Nat→List Int:=fun _=>[]
def qx (e:Int) (s:KS) (D:DM) (rs:List G.Rep) (up:List Bool):TM:=⟨e,s,D,rs,up,noL,[],.map [],[],0⟩
def dm (e:Int) (s:KS) (D:DM) (rs:List G.Rep) (up:List Bool):Int × TM:=gq (qx e s D rs up) s
theorem build_tg (k m:Nat) (gs:List Value) (hg:gs.length=78) (w:World) :
 (Instr.build 107 #[(0,.pointer (some ⟨k,0,.none⟩)),(1,.agg gs.toArray),(4,.map (some m))]).run Tryz.prog w=.ok (.agg (tgV k gs (bxV noA noN noN) (.slice .none 0 0) (.map (some m)) (.slice .none 0 0) 0).toArray) w:=by
 refine run_build w _ _ _ ?_
 match gs,hg with
 | y0 :: y1 :: y2 :: y3 :: y4 :: y5 :: y6 :: y7 :: y8 :: y9 :: y10 :: y11 :: y12 :: y13 :: y14 :: y15 :: y16 :: y17 :: y18 :: y19 :: y20 :: y21 :: y22 :: y23 :: y24 :: y25 :: y26 :: y27 :: y28 :: y29 :: y30 :: y31 :: y32 :: y33 :: y34 :: y35 :: y36 :: y37 :: y38 :: y39 :: y40 :: y41 :: y42 :: y43 :: y44 :: y45 :: y46 :: y47 :: y48 :: y49 :: y50 :: y51 :: y52 :: y53 :: y54 :: y55 :: y56 :: y57 :: y58 :: y59 :: y60 :: y61 :: y62 :: y63 :: y64 :: y65 :: y66 :: y67 :: y68 :: y69 :: y70 :: y71 :: y72 :: y73 :: y74 :: y75 :: y76 :: y77 :: [],_=>show _=_;kernel_rfl
theorem box_none (w:World):j6 w 0 noA noN noN noL:=fun _ _=>⟨⟨rfl,Nat.zero_le _,fun h=>absurd rfl h⟩,fun _=>rfl,(fun _ h=>by cases h),Nat.le_refl _⟩
theorem map_none (w:World):qo (w.alloc (.map #[] 0)) w.heap.size (.map []):=World.ownsMap_made w _ _ _
open Classical in
theorem newTg {w0 w:World} {t m k b:Nat} {e:Int} {s:KS} {a:Option Addr} {c:Nat} {D:DM} {P:DP} {rs:List G.Rep} {up:List Bool} (hd:At w t (tgV k (G.grV rs up) (bxV noA noN noN) (.slice .none 0 0) (.map (some m)) (.slice .none 0 0) 0) 107)
 (hk:KK w k b 10 e s a c D P) (hm:qo w m (.map [])) (hne:t≠m) (hkt:¬KF P b k a s t) (hkm:¬KF P b k a s m) (ok:G.GOK rs up) (hbw:Below w0.heap.size w0 w) (hlo:∀ q,KF P b k a s q→w0.heap.size≤q) (hlt:w0.heap.size≤t) (hlm:w0.heap.size≤m) :
 ∃ p,aa w0 w t (qx e s D rs up) p∧p.k=k∧p.b=b∧p.a=a∧p.c=c∧(∀ q,p.F q→KF P b k a s q∨q=t∨q=m):=by
 refine ⟨⟨k,b,a,c,P,noA,noN,noN,.slice .none 0 0,.slice .none 0 0,m,fun q=>if KF P b k a s q then 1 else if q=t then 2 else if q=m then 5 else 0⟩,?_,rfl,rfl,rfl,rfl,fun q hq=>?_⟩
 ·have hml:=hm.lt
  have htl:=hd.lt
  refine ⟨hd,ok,hk,ek.nil _ _ _,ek.nil _ _ _,hm,box_none w,fun q hq=>if_pos hq,?_,fun q hq=>?_,fun q hq=>?_,?_,fun j _ ad hj=>?_,fun q hq=>?_,hbw⟩
  ·show (if KF P b k a s t then 1 else if t=t then 2 else if t=m then 5 else 0)=2
   rw [if_neg hkt,if_pos rfl]
  ·exact absurd hq (ObX.nil q)
  ·exact absurd hq (ObX.nil q)
  ·show (if KF P b k a s m then 1 else if m=t then 2 else if m=m then 5 else 0)=5
   rw [if_neg hkm,if_neg (Ne.symm hne),if_pos rfl]
  ·cases hj
  ·have hq':(if KF P b k a s q then 1 else if q=t then 2 else if q=m then 5 else 0)≠0:=hq
   by_cases h1:KF P b k a s q
   ·exact ⟨hlo q h1,hk.foot q h1⟩
   ·rw [if_neg h1] at hq'
    by_cases h2:q=t
    ·rw [h2];exact ⟨hlt,htl⟩
    ·rw [if_neg h2] at hq'
     by_cases h3:q=m
     ·rw [h3];exact ⟨hlm,hml⟩
     ·rw [if_neg h3] at hq';exact absurd rfl hq'
 ·have hq':(if KF P b k a s q then 1 else if q=t then 2 else if q=m then 5 else 0)≠0:=hq
  by_cases h1:KF P b k a s q
  ·exact .inl h1
  ·rw [if_neg h1] at hq'
   by_cases h2:q=t
   ·exact .inr (.inl h2)
   ·rw [if_neg h2] at hq'
    by_cases h3:q=m
    ·exact .inr (.inr h3)
    ·rw [if_neg h3] at hq';exact absurd rfl hq'
theorem tnew_any {w0 w:World} {b:Nat} {D:DM} {P:DP} {rs:List G.Rep} {up:List Bool} (hd:DAt w b 10 D P) (hdn:D.down=false) (e:Int) (s:KS) (hs:s.f=0) (h1:1≤e) (h9:e≤1000000) (hk:D.now.getD 0 []=gm (df e s)) (hL:K.Laid w0) (hbw:Below w0.heap.size w0 w) (hld:∀ q,DF P b q→w0.heap.size≤q) (ok:G.GOK rs up) :
 Calls Tryz.prog 37 #[.pointer (some ⟨b,0,.none⟩),.agg (G.grV rs up).toArray] w fun r w'=>∃ t p,aa w0 w' t (dm e s D rs up).2 p∧p.b=b∧w.heap.size≤t∧ae (DF P b) p.F w w' ∧
  ((dm e s D rs up).1=0→r=.returned (.tuple #[.pointer (some ⟨t,0,.none⟩),.nilIface]))∧((dm e s D rs up).1≠0→r=.returned (.tuple #[.pointer .none,ai (dm e s D rs up).1])):=by
 obtain ⟨X,hX,a0,bX,sX⟩:=Go.Proofs.YtpkhdihoijkamaaGreatDoor.D.one w (.cells (G.grV rs up).toArray 51)
 have A3:G.At X w.heap.size (G.grV rs up) 51:=a0
 have HDA:Hid (DAt X b 10 D P):=hd.later bX (Nat.le_refl _)
 have HLD:Hid ((Instr.loadAt 51 (.pointer (some ⟨w.heap.size,0,.none⟩))).run Tryz.prog X=.ok (.agg (G.grV rs up).toArray) X):=G.gz A3 ok.vlen
 have HOP:=open_ok (hd.later bX (Nat.le_refl _)) hdn e s hs h1 h9 hk ((hL.later hbw).later bX)
 have HOPH:Hid (Calls Tryz.prog 73 #[.pointer (some ⟨b,0,.none⟩)] X fun r w'=>∃ k a c,r=.returned (.tuple #[.pointer (some ⟨k,0,.none⟩),.nilIface])∧KpAt w' k b e s a c∧Below X.heap.size X w'∧X.heap.size≤k∧(∀ p,a=some p→X.heap.size≤p.block∧(s.l.length≠0→p.block≠k))):=HOP
 have HP:Hid (K.Laid w0∧Below w0.heap.size w0 w∧(∀ q,DF P b q→w0.heap.size≤q)∧G.GOK rs up∧Below w.heap.size w X∧X.heap.size=w.heap.size+1):=⟨hL,hbw,hld,ok,bX,sX⟩
 have HDF:Hid (∀ q,DF P b q→q<w.heap.size):=fun q hq=>hd.foot q hq
 have hmm:=@run_makeMap Tryz.prog
 clear HOP hd hdn hs h1 h9 hk hL hbw hld ok a0 bX sX
 go_enter Tryz.func37,Tryz.ntmps37
 go_upto_region 1 with fail
 rw [←hX]
 clear hX
 obtain ⟨b3,hb3⟩:∃ b3,w.heap.size=b3:=⟨_,rfl⟩
 rw [hb3] at A3 HLD ⊢
 clear hb3
 go_wp2_with fail
 refine HOPH.out.mono ?_
 rintro r W ⟨k,a,c,rfl,hkp,b1,hk1,hka⟩
 have HA:Hid (G.At W b3 (G.grV rs up) 51):=A3.later b1 A3.lt
 have HL4:Hid ((Instr.loadAt 51 (.pointer (some ⟨b3,0,.none⟩))).run Tryz.prog W=.ok (.agg (G.grV rs up).toArray) W):=G.gz HA.out HP.out.2.2.2.1.vlen
 have HKP:Hid (KpAt W k b e s a c∧X.heap.size≤k∧(∀ p,a=some p→X.heap.size≤p.block∧(s.l.length≠0→p.block≠k))∧DAt W b 10 D P∧Below X.heap.size X W):=⟨hkp,hk1,hka,HDA.out.later b1 (Nat.le_refl _),b1⟩
 clear hkp b1 hk1 hka A3 HDA HOPH HLD
 obtain ⟨Y,hY,aY,bY,sY⟩:=Go.Proofs.YtpkhdihoijkamaaGreatDoor.D.one W (.map #[] 0)
 have HBT:Hid ((Instr.build 107 #[(0,.pointer (some ⟨k,0,.none⟩)),(1,.agg (G.grV rs up).toArray),(4,.map (some W.heap.size))]).run Tryz.prog (W.alloc (.map #[] 0))=.ok (.agg (tgV k (G.grV rs up) (bxV noA noN noN) (.slice .none 0 0) (.map (some W.heap.size)) (.slice .none 0 0) 0).toArray) (W.alloc (.map #[] 0))):=build_tg k W.heap.size _ HP.out.2.2.2.1.vlen _
 go_wp2_with (first|(with_reducible refine ak HL4.out rfl rfl ?_)|(with_reducible refine Go.Proofs.YtpkhdihoijkamaaGreatDoor.D.abd HBT.out (by simp [Act.eval]) ?_)|(refine wpList_plain rfl fun K hK=>wp_boxT _ rfl (tgV k (G.grV rs up) (bxV noA noN noN) (.slice .none 0 0) (.map (some W.heap.size)) (.slice .none 0 0) 0) rfl fun W9 A9 B9 S9=>hK _ _ ?_))
 have hWs:(W.alloc (.map #[] 0)).heap.size=W.heap.size+1:=by simp
 have hm0:=map_none W
 rw [hWs] at A9 B9 S9
 have bW9:Below W.heap.size W W9:=by
  have h0:Below W.heap.size W (W.alloc (.map #[] 0)):=(Below.refl _ _).alloc (Nat.le_refl _) _
  exact h0.trans (B9.mono (by omega))
 have hX:=HP.out.2.2.2.2.2
 have hXW:=HKP.out.2.2.2.2.size
 have hw0:=HP.out.2.1.size
 have hkk:KK W9 k b 10 e s a c D P:=by
  refine KK.later (w:=W) ⟨HKP.out.2.2.2.1,HKP.out.1,fun p hp h0=>⟨fun hf=>?_,(HKP.out.2.2.1 p hp).2 h0⟩,fun hf=>?_⟩ bW9
  ·have h1:=(HKP.out.2.2.1 p hp).1
   have h2:=HP.out.2.2.1
   have h3:=HDF.out p.block hf
   omega
  ·have h1:=HKP.out.2.1
   have h3:=HDF.out k hf
   omega
 have hfoot:∀ q,KF P b k a s q→q<W.heap.size:=by
  rintro q (hq|rfl|⟨p,hp,h0,rfl⟩)
  ·have:=HDF.out q hq;omega
  ·exact HKP.out.1.hd.lt
  ·exact yo HKP.out.1.row h0 p hp
 have hlo:∀ q,KF P b k a s q→w0.heap.size≤q:=by
  rintro q (hq|rfl|⟨p,hp,h0,rfl⟩)
  ·exact HP.out.2.2.1 q hq
  ·have:=HKP.out.2.1;omega
  ·have:=(HKP.out.2.2.1 p hp).1;omega
 have hbw9:Below w0.heap.size w0 W9:=by
  have h1:Below w.heap.size w W9:=(HP.out.2.2.2.2.1.trans (HKP.out.2.2.2.2.mono (by omega))).trans (bW9.mono (by omega))
  exact HP.out.2.1.trans (h1.mono hw0)
 obtain ⟨p,hT,pk,pb,pa,pc,hF⟩:=newTg (w0:=w0) A9 hkk (abl hm0 (ae.of (F:=fun _=>False) B9 (by omega)) (fun f=>f)) (by omega) (fun f=>by have:=hfoot _ f;omega) (fun f=>by have:=hfoot _ f;omega) HP.out.2.2.2.1 hbw9 hlo (by omega) (by omega)
 obtain ⟨t0,ht0⟩:∃ t0,W.heap.size+1=t0:=⟨_,rfl⟩
 rw [ht0] at hT hF ⊢
 have HT:Hid (aa w0 W9 t0 (qx e s D rs up) p):=hT
 have HTT:Hid (w.heap.size≤t0∧p.b=b):=⟨by show _≤_;omega,pb⟩
 have HMV:Hid (ae (DF P b) p.F w W9):=by
  have h1:Below w.heap.size w W9:=(HP.out.2.2.2.2.1.trans (HKP.out.2.2.2.2.mono (by omega))).trans (bW9.mono (by omega))
  refine (ae.of (F:=DF P b) h1 (Nat.le_refl _)).mono (fun q f=>f) (fun q f=>?_)
  rcases hF q f with (h2|rfl|⟨p',hp,h0,rfl⟩)|rfl|rfl
  ·exact .inl h2
  ·have:=HKP.out.2.1;exact .inr (.inr (by omega))
  ·have:=(HKP.out.2.2.1 p' hp).1;exact .inr (.inr (by omega))
  ·exact .inr (.inr (by omega))
  ·exact .inr (.inr (by omega))
 have HKA:Hid (KpAt W9 k b e s a c):=hkk.kp
 clear A9 B9 S9 hm0 hWs bW9 hkk hfoot hlo hbw9 hT pk pb pa pc hF hY aY bY sY HBT HL4 HA ht0 hX hXW hw0
 refine (state_any HKA.out).mono ?_
 rintro r W10 ⟨a1,c1,rfl,hr1,hn1,b10⟩
 have HT2:Hid (aa w0 W10 t0 (qx e s D rs up) p):=HT.out.later b10
 have HR:Hid (iy W10 p a1 s):=HT.out.rowNew hr1 (fun q hq _=>(hn1 q hq).1) (by have:=KS.len HKA.out.ok;omega)
 replace HMV:Hid (ae (DF P b) p.F w W10):=HMV.out.trans (ae.of b10 (Nat.le_refl _))
 clear hr1 hn1 b10 HT
 go_wp2_with fail
 refine (ac8 HT2.out HP.out.1 s a1 c1 HR.out).mono ?_
 rintro r W11 ⟨rfl,p2,t2,k2,b2,m2⟩
 have HT3:Hid (aa w0 W11 t0 (dm e s D rs up).2 p2):=t2
 have HQ:Hid (p2.b=b∧w.heap.size≤t0∧ae (DF P b) p2.F w W11):=⟨b2.trans HTT.out.2,HTT.out.1,HMV.out.trans m2⟩
 have HF:Hid ((gq (qx e s D rs up) s).1=(dm e s D rs up).1):=rfl
 rw [HF.out]
 clear t2 k2 b2 m2 HT2 HMV HR HTT HF
 by_cases hf:(dm e s D rs up).1=0
 ·rw [hf,show ai 0=.nilIface from rfl]
  have HF0:Hid ((dm e s D rs up).1=0):=hf
  clear hf
  go_wp2
  go_ret2
  exact ⟨t0,p2,HT3.out,HQ.out.1,HQ.out.2.1,HQ.out.2.2,fun _=>rfl,fun h=>absurd HF0.out h⟩
 ·have HE:Hid (ai (dm e s D rs up).1=.iface 96 (.int .i64 (dm e s D rs up).1)):=by show _=_;simp [ai,hf]
  have HF0:Hid (¬(dm e s D rs up).1=0):=hf
  rw [HE.out]
  clear hf
  go_wp2
  go_ret2
  exact ⟨t0,p2,HT3.out,HQ.out.1,HQ.out.2.1,HQ.out.2.2,fun h=>absurd h HF0.out,fun _=>by rw [HE.out];rfl⟩
end Go.Proofs.YtpkhdihoijkamaaGreatDoor.U
