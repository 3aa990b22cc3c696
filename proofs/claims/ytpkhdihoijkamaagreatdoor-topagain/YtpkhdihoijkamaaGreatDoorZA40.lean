/- Several texts of this seat in one: UNewestM, GPut, UNewest. No statement of the seat is proved here. -/
import Derived.Test.YtpkhdihoijkamaaGreatDoorWT
import Derived.Test.YtpkhdihoijkamaaGreatDoorZA39
import Derived.Test.YtpkhdihoijkamaaGreatDoorZA28
import Derived.Test.YtpkhdihoijkamaaGreatDoorZA32
namespace Go.Proofs.YtpkhdihoijkamaaGreatDoor.U
open Go.ChangeShapes Go.WideShapes Go.ChangeAt Go.RowKit Go.Deep Go.Maps
open Go.Proofs.YtpkhdihoijkamaaGreatDoor.D
def wu (k:Nat) (b:G.Cel) (r:G.Rep):G.Cel:=if G.di (G.ck k r) b=true then G.ck k r else b
def um (k:Nat) (rs:List G.Rep):G.Cel:=rs.foldl (wu k) G.zc
def fu (M:TM) (k:Nat):G.Cel:=um k ((G.cz M.rs M.up M.e 3).map (G.ah M.rs))
def jr (M:TM):Bool:=decide (2≤(G.cz M.rs M.up M.e 3).length)
theorem memL_le3 (rs:List G.Rep) (up:List Bool) (e:Int):(G.cz rs up e 3).length≤3:=by
 rw [memL_len3];split <;> split <;> split <;> omega
theorem fold_best (k:Nat):∀ (rs:List G.Rep) (acc:G.Cel),G.di G.zc acc=false→rs.foldl (wu k) acc=if G.di (G.rz k rs) acc=true then G.rz k rs else acc
 | [],acc,h=>by
   show acc=_
   rw [if_neg];show ¬G.di G.zc acc=true;rw [h];simp
 | r :: rs,acc,h=>by
   rw [List.foldl_cons]
   have ihz:G.di G.zc (wu k acc r)=false:=by
    unfold wu;split
    ·rename_i hn;exact G.aat h (G.adf hn)
    ·exact h
   rw [fold_best k rs _ ihz,show G.rz k (r :: rs)=if G.di (G.rz k rs) (G.ck k r)=true then G.rz k rs else G.ck k r from rfl]
   unfold wu
   by_cases h1:G.di (G.ck k r) acc=true
   ·rw [if_pos h1]
    by_cases h2:G.di (G.rz k rs) (G.ck k r)=true
    ·rw [if_pos h2,if_pos]
     cases h3:G.di (G.rz k rs) acc with
     | true=>rfl
     | false=>have:=G.aat (G.adf h2) h3;rw [h1] at this;cases this
    ·rw [if_neg h2,if_pos h1]
   ·rw [if_neg h1]
    have h1':G.di (G.ck k r) acc=false:=by simpa using h1
    by_cases h3:G.di (G.rz k rs) acc=true
    ·rw [if_pos h3]
     have h2:G.di (G.rz k rs) (G.ck k r)=true:=by
      cases h4:G.di (G.rz k rs) (G.ck k r) with
      | true=>rfl
      | false=>have:=G.aat h4 h1';rw [h3] at this;cases this
     rw [if_pos h2,if_pos h3]
    ·rw [if_neg h3]
     by_cases h2:G.di (G.rz k rs) (G.ck k r)=true
     ·rw [if_pos h2,if_neg h3]
     ·rw [if_neg h2,if_neg h1]
theorem newest_is {M:TM} {k:Nat} (hk:k<8) {X:Nat→G.Cel→Prop} (h:CI X M.gs):fu M k=G.bestM M.rs M.up M.e k:=by
 unfold fu um
 rw [fold_best k _ G.zc (G.xw _)]
 show (if G.di (G.bestM M.rs M.up M.e k) G.zc=true then G.bestM M.rs M.up M.e k else G.zc)=G.bestM M.rs M.up M.e k
 split
 ·rfl
 ·rename_i hn
  rcases h.zc hk (c:=G.bestM M.rs M.up M.e k) (.inl (G.CS_best M.rs M.up M.e k)) with h1|h1
  ·exact h1.symm
  ·exact absurd h1 hn
theorem zl (rs:List G.Rep) (up:List Bool) (e:Int) (i:Nat):G.takes rs up e i=(up.getD i false && ((G.ah rs i).f == e)):=by
 unfold G.takes G.ah;simp
theorem memL_congr {a b:List G.Rep} {up:List Bool} {e:Int}:∀ n:Nat,(∀ i:Nat,i<n→(G.ah a i).f=(G.ah b i).f)→G.cz a up e n=G.cz b up e n
 | 0,_=>by simp [G.cz]
 | n+1,h=>by
   have ih:=memL_congr (a:=a) (b:=b) (up:=up) (e:=e) n (fun i hi=>h i (by omega))
   unfold G.cz
   rw [ih,zl,zl,h n (by omega)]
theorem read_f {rs:List G.Rep} {up:List Bool} (hG:G.GOK rs up) (e:Int) (k:Nat) (i:Nat) (hi:i<3):(G.ah (G.kg rs up e k) i).f=(G.ah rs i).f:=by
 rw [abm hG e k i hi];split <;> rfl
theorem memL_read {rs:List G.Rep} {up:List Bool} (hG:G.GOK rs up) (e:Int) (k:Nat):G.cz (G.kg rs up e k) up e 3=G.cz rs up e 3:=memL_congr 3 (read_f hG e k)
theorem newest_read {M M':TM} {k:Nat} (hk:k<8) {X:Nat→G.Cel→Prop} (hG:GI M.gs) (h:CI X M.gs) (hr:gotB M=true) (e1:M'.rs=G.kg M.rs M.up M.e k) (e2:M'.up=M.up) (e3:M'.e=M.e) :
 fu M' k=gotC M k∧jr M'=true:=by
 have ok:G.GOK M.rs M.up:=hG.ok
 have h2:CI X ({ M with rs:=G.kg M.rs M.up M.e k }:TM).gs:=CI.step (S:=fun _=>True) h hG (Step.read M.gs k hk)
 have hN:fu M' k=fu { M with rs:=G.kg M.rs M.up M.e k } k:=by unfold fu;rw [e1,e2,e3]
 have hB:jr M'=true:=by
  unfold jr;rw [e1,e2,e3,memL_read ok]
  exact hr
 refine ⟨?_,hB⟩
 rw [hN,newest_is hk h2]
 show G.bestM (G.kg M.rs M.up M.e k) M.up M.e k=gotC M k
 have hck:∀ i:Nat,i<3→G.takes (G.kg M.rs M.up M.e k) M.up M.e i=true→G.ck k (G.ah (G.kg M.rs M.up M.e k) i)=gotC M k:=by
  intro i hi ht
  rw [zl,read_f ok M.e k i hi,←zl] at ht
  rw [abm ok M.e k i hi,if_pos ⟨hr,ht⟩]
  exact G.aaw (by rw [(G.aaa ok i hi).len];exact hk)
 have hc:AC X ({ M with rs:=G.kg M.rs M.up M.e k }:TM).gs k (gotC M k):=by
  obtain ⟨x,y,hxy,hy,htx,hty⟩:=G.two_of M.rs M.up M.e (of_decide_eq_true hr)
  refine .inl (.inr ⟨x,by omega,?_⟩)
  show gotC M k=G.ck k (G.ah (G.kg M.rs M.up M.e k) x)
  rw [hck x (by omega) (by rw [zl,read_f ok M.e k x (by omega),←zl];exact htx)]
 rcases G.bestM_in (G.kg M.rs M.up M.e k) M.up M.e k with h1|⟨i,hi,ht,h1⟩
 ·obtain ⟨x,y,hxy,hy,htx,hty⟩:=G.two_of M.rs M.up M.e (of_decide_eq_true hr)
  have htx':G.takes (G.kg M.rs M.up M.e k) M.up M.e x=true:=by rw [zl,read_f ok M.e k x (by omega),←zl];exact htx
  have hge:=G.bestM_ge (rs:=G.kg M.rs M.up M.e k) (up:=M.up) (e:=M.e) k (by omega:x<3) htx'
  rw [hck x (by omega) htx',h1] at hge
  rcases h2.zc hk hc with h3|h3
  ·rw [h1,h3]
  ·rw [h3] at hge;cases hge
 ·rw [h1,hck i hi ht]
theorem compare_says {M:TM} {c:CmD} (hA:All M) (h9:c.op=9) (hc:c.f=0) :
 ((au M c).1.f≠0→(au M c).1.tag=0∧(au M c).2.fly.length=M.fly.length∧((au M c).1.f=9→jr (au M c).2=true∧(fu (au M c).2 c.at'.toNat).d≠c.wa)) ∧
 ((au M c).1.f=0→0<(au M c).1.tag∧jr (au M c).2=true∧(fu (au M c).2 c.at'.toNat).d=c.wa∧(au M c).2.fly.length=M.fly.length+3):=by
 have hk:=cmd_at hc
 have hk8:c.at'.toNat<8:=by omega
 have hR:au M c=(⟨ll,(jg (mute M c) c).1,0,(jg (mute M c) c).2.1⟩,(jg (mute M c) c).2.2):=by
  unfold au kr
  rw [if_pos hc,if_neg (by omega),if_neg (by omega),if_pos h9]
 rw [hR]
 have gi:GI (mute M c).gs:=hA.gi
 have ci:CI (fun _ _=>False) (mute M c).gs:=hA.ci
 have hfl:(mute M c).fly=M.fly:=rfl
 rw [←hfl]
 generalize mute M c=N at *
 show ((jg N c).2.1≠0→(jg N c).1=0∧(jg N c).2.2.fly.length=N.fly.length∧((jg N c).2.1=9→jr (jg N c).2.2=true∧(fu (jg N c).2.2 c.at'.toNat).d≠c.wa)) ∧
  ((jg N c).2.1=0→0<(jg N c).1∧jr (jg N c).2.2=true∧(fu (jg N c).2.2 c.at'.toNat).d=c.wa∧(jg N c).2.2.fly.length=N.fly.length+3)
 have hcm:jg N c=if ji N c=0 then zt N c else (0,ji N c,N):=by unfold jg;rw [allowM_self gi]
 by_cases ha:ji N c=0
 ·rw [if_pos ha] at hcm
  rw [hcm]
  have hgb:gotB N=true:=by
   unfold ji at ha
   split at ha
   ·unfold uw at ha
    split at ha
    ·rename_i hr
     unfold mi at hr
     rw [ac4 gi] at hr
     exact hr
    ·omega
   ·omega
  have hmb:jr N=true:=hgb
  have hgc:fu N c.at'.toNat=gotC N c.at'.toNat:=by
   rw [newest_is hk8 ci]
   exact (G.readC_is N.rs N.up N.e c.at'.toNat hk8 hgb).symm
  unfold zt
  by_cases hf:fliesTo N c.at'.toNat=false
  ·rw [if_pos ⟨hgb,hf⟩]
   by_cases hd:(gotC N c.at'.toNat).d=c.wa
   ·rw [if_pos hd]
    by_cases hfu:fullB N=true
    ·rw [if_pos hfu]
     exact ⟨fun _=>⟨rfl,rfl,fun h=>absurd (show (6:Int)=9 from h) (by decide)⟩,fun h=>absurd (show (6:Int)=0 from h) (by decide)⟩
    ·rw [if_neg hfu]
     refine ⟨fun h=>absurd rfl h,fun _=>?_⟩
     have hn:=newest_read (M:=N) (M':={ rq N c with rs:=(gotM N c.at'.toNat).rs }) hk8 gi ci hgb rfl rfl rfl
     refine ⟨by show (0:Int)<(N.dn.length:Int)+1;omega,hn.2,by rw [hn.1];exact hd,?_⟩
     show (N.fly ++ _).length=_
     rw [List.length_append];rfl
   ·rw [if_neg hd]
    exact ⟨fun _=>⟨rfl,rfl,fun _=>⟨hmb,by rw [hgc];exact hd⟩⟩,fun h=>absurd (show (9:Int)=0 from h) (by decide)⟩
  ·rw [if_neg (fun h=>hf h.2)]
   exact ⟨fun _=>⟨rfl,rfl,fun h=>absurd (show (7:Int)=9 from h) (by decide)⟩,fun h=>absurd (show (7:Int)=0 from h) (by decide)⟩
 ·rw [if_neg ha] at hcm
  rw [hcm]
  refine ⟨fun _=>⟨rfl,rfl,fun h=>?_⟩,fun h=>absurd h ha⟩
  have h':ji N c=9:=h
  unfold ji uw at h'
  repeat' split at h'
  all_goals omega
end Go.Proofs.YtpkhdihoijkamaaGreatDoor.U
namespace Go.Proofs.YtpkhdihoijkamaaGreatDoor.G
set_option maxRecDepth 100000
open Go.Proofs.YtpkhdihoijkamaaGreatDoor.D
open Go.ChangeShapes Go.WideShapes Go.ChangeAt Go.RowKit Go.Deep
theorem ab2 {W:World} {b:Nat} {T:TypeId} {rs:List Rep} {up:List Bool} (hA:At W b (grV rs up) T) (h:GOK rs up) (m:Nat) (hm:m<3) (k:Nat) (hk:k<8):W.rangeAt b (m*25+1+k*3) (ck k (ah rs m)).vs:=by
 have hml:m<rs.length:=by rw [h.len];exact hm
 have hok:=h.ok _ (List.getElem_mem hml)
 have hkl:k<rs[m].l.length:=by rw [hok.len];exact hk
 have e:ck k (ah rs m)=rs[m].l[k]:=by unfold ck;rw [aao hml];simp [hkl]
 rw [e]
 obtain ⟨g0,g1,g2⟩:=repV_get rs[m].f rs[m].l k hkl
 have hr:∀ j,j<25→W.cell? ⟨b,m*25+j,.none⟩=(aj rs[m].f rs[m].l)[j]? := fun j hj=>(hA.cell _).trans (h.rep m hml j hj)
 intro j v hv
 have hj:j=0∨j=1∨j=2:=by have:=(List.getElem?_eq_some_iff.1 hv).1;simp [Cel.vs] at this;omega
 rcases hj with rfl|rfl|rfl
 ·rw [show m*25+1+k*3+0=m*25+(1+k*3) by omega,hr _ (by omega),g0];simpa [Cel.vs] using hv
 ·rw [show m*25+1+k*3+1=m*25+(1+k*3+1) by omega,hr _ (by omega),g1];simpa [Cel.vs] using hv
 ·rw [show m*25+1+k*3+2=m*25+(1+k*3+2) by omega,hr _ (by omega),g2];simpa [Cel.vs] using hv
theorem putCel {c d:Cel} {Z:World} {b:Nat} {T:TypeId} (A:At Z b c.vs T):∃ Z2,(Instr.storeAt 44 (.pointer (some ⟨b,0,.none⟩)) (.agg #[.int .i64 d.e,.int .i64 d.n,.string d.d])).run Tryz.prog Z=.ok () Z2∧At Z2 b d.vs T∧(∀ (b':Nat) (l:List Value) (T':TypeId),b'≠b→At Z b' l T'→At Z2 b' l T')∧(∀ (B:Nat) (w0:World),B≤b→Below B w0 Z→Below B w0 Z2)∧(∀ (b' o:Nat),b'≠b→Z2.cell? ⟨b',o,.none⟩=Z.cell? ⟨b',o,.none⟩):=by
 have A2:=At.set d.vs 0 _ _ A
 rw [ik _ _ (by rfl)] at A2
 refine ⟨_,aax (o:=0) d A (by simp [Cel.vs]),A2,fun b' l T' hne hA=>At.set_ne hne _ 0 _ hA,fun B w0 hB hb=>below_setCells hB _ 0 _ hb,fun b' o hne=>?_⟩
 rw [World.cell?_of_block (w:=Z) (aco hne _ _ _)]
end Go.Proofs.YtpkhdihoijkamaaGreatDoor.G
namespace Go.Proofs.YtpkhdihoijkamaaGreatDoor.U
open Go.ChangeShapes Go.WideShapes Go.ChangeAt Go.RowKit Go.Deep Go.Maps
open Go.Proofs.YtpkhdihoijkamaaGreatDoor.D
attribute [local go_sem] zc78
theorem newCel (d:G.Cel) (W:World):∃ Z,(Instr.storeAt 44 (.pointer (some ⟨W.heap.size,0,.none⟩)) (.agg #[.int .i64 d.e,.int .i64 d.n,.string d.d])).run Tryz.prog (W.alloc (.cells #[.int .i64 0,.int .i64 0,.string ⟨#[]⟩] 44))=.ok () Z∧G.At Z W.heap.size d.vs 44∧Below W.heap.size W Z:=by
 have A:G.At (W.alloc (.cells #[.int .i64 0,.int .i64 0,.string ⟨#[]⟩] 44)) W.heap.size G.zc.vs 44:=heap_alloc_new W _
 obtain ⟨Z,hst,hA,_,hbl,_⟩:=G.putCel (d:=d) A
 exact ⟨Z,hst,hA,hbl _ _ (Nat.le_refl _) ((Below.refl _ _).alloc (Nat.le_refl _) _)⟩
structure InN (w wr:World) (b4 b6 b8 bl off:Nat) (rs:List G.Rep) (up:List Bool) (best:G.Cel) (L:List Int):Prop where
 A4:G.At wr b4 G.zc.vs 44
 A6:G.At wr b6 (G.grV rs up) 51
 A8:G.At wr b8 best.vs 44
 row:∀ (j:Nat) (hj:j<L.length),wr.cell? ⟨bl,off+j,.none⟩=some (.int .i64 L[j])
 bw:Below w.heap.size w wr
 n4:b8≠b4
 n6:b8≠b6
 nb:L.length≠0→bl≠b8
 lo:w.heap.size≤b8
 l4:w.heap.size≤b4
 ok:G.GOK rs up
section
variable {w wr wx:World} {b4 b6 b8 bl off:Nat} {rs:List G.Rep} {up:List Bool} {best:G.Cel} {L:List Int}
theorem InN.later (h:InN w wr b4 b6 b8 bl off rs up best L) (hb:Below wr.heap.size wr wx):InN w wx b4 b6 b8 bl off rs up best L :=
 ⟨h.A4.later hb h.A4.lt,h.A6.later hb h.A6.lt,h.A8.later hb h.A8.lt,fun j hj=>K.cell_later hb (h.row j hj),h.bw.trans (hb.mono h.bw.size),h.n4,h.n6,h.nb,h.lo,h.l4,h.ok⟩
theorem InN.put (h:InN w wr b4 b6 b8 bl off rs up best L) (d:G.Cel):∃ Z,(Instr.storeAt 44 (.pointer (some ⟨b8,0,.none⟩)) (.agg #[.int .i64 d.e,.int .i64 d.n,.string d.d])).run Tryz.prog wr=.ok () Z∧InN w Z b4 b6 b8 bl off rs up d L:=by
 obtain ⟨Z,hst,hA,hne,hbl,hce⟩:=G.putCel (d:=d) h.A8
 refine ⟨Z,hst,hne _ _ _ h.n4.symm h.A4,hne _ _ _ h.n6.symm h.A6,hA,fun j hj=>?_,hbl _ _ h.lo h.bw,h.n4,h.n6,h.nb,h.lo,h.l4,h.ok⟩
 have hn:bl≠b8:=h.nb (by omega)
 rw [hce _ _ hn];exact h.row j hj
end
set_option maxRecDepth 100000 in
set_option maxHeartbeats 16000000 in
theorem aa8 {w0 w:World} {t:Nat} {M:TM} {p:TP} (h:aa w0 w t M p) (k:Nat) (hk8:k<8) :
 Calls Tryz.prog 31 #[.pointer (some ⟨t,0,.none⟩),.int .i64 (k:Int)] w fun r w'=>r=.returned (.tuple #[.agg #[.int .i64 (fu M k).e,.int .i64 (fu M k).n,.string (fu M k).d],.bool (jr M)])∧Below w.heap.size w w':=by
 obtain ⟨X,hX,a0,bX,sX⟩:=Go.Proofs.YtpkhdihoijkamaaGreatDoor.D.one w (.cells #[.int .i64 0,.int .i64 0,.string ⟨#[]⟩] 44)
 have A4:G.At X w.heap.size G.zc.vs 44:=a0
 have HT:Hid (aa w0 X t M p):=h.later bX
 have H4:Hid (G.At X w.heap.size G.zc.vs 44∧Below w.heap.size w X):=⟨A4,bX⟩
 have HK:Hid (k<8):=hk8
 clear a0 bX sX h A4
 go_enter Tryz.func31,Tryz.ntmps31
 go_wp2_with fail
 rw [←hX]
 clear hX
 obtain ⟨b4,hb4⟩:∃ b4,w.heap.size=b4:=⟨_,rfl⟩
 have HB4:Hid (w.heap.size=b4):=hb4
 replace H4:Hid (G.At X b4 G.zc.vs 44∧Below w.heap.size w X):=⟨by rw [←hb4];exact H4.out.1,H4.out.2⟩
 rw [hb4]
 clear hb4
 refine (aal HT.out.hd HT.out.len).mono ?_
 rintro r W1 ⟨rfl,b1⟩
 obtain ⟨V2,hst,A6,b2⟩:=G.newG HT.out.ok W1
 have HST:Hid ((Instr.storeAt 51 (.pointer (some ⟨W1.heap.size,0,.none⟩)) (.agg (G.grV M.rs M.up).toArray)).run Tryz.prog (W1.alloc (.cells G.z78.toArray 51))=.ok () V2):=hst
 obtain ⟨b6,hb6⟩:∃ b6,W1.heap.size=b6:=⟨_,rfl⟩
 have HB6:Hid (W1.heap.size=b6):=hb6
 have h46:b4<b6:=by have:=H4.out.1.lt;have:=b1.size;omega
 have H6:Hid (G.At V2 b6 (G.grV M.rs M.up) 51∧b4<b6):=⟨by rw [←hb6];exact A6,h46⟩
 replace H4:Hid (G.At V2 b4 G.zc.vs 44∧Below w.heap.size w V2):=⟨(H4.out.1.later b1 H4.out.1.lt).later b2 (by have:=H4.out.1.lt;have:=b1.size;omega),(H4.out.2.trans (b1.mono H4.out.2.size)).trans (b2.mono (Nat.le_trans H4.out.2.size b1.size))⟩
 replace HT:Hid (aa w0 V2 t M p):=(HT.out.later b1).later b2
 clear hst A6 b1 b2 hb6 h46
 go_upto_region 2 with (with_reducible refine cu HST.out rfl rfl ?_)
 clear HST
 rw [HB6.out]
 refine ql (S:=fun w'=>G.At w' b6 (G.grV M.rs M.up) 51) (by kernel_rfl) ?_
 intro V3 hV bV sV
 replace HT:Hid (aa w0 V3 t M p):=HT.out.later bV
 replace H4:Hid (G.At V3 b4 G.zc.vs 44∧Below w.heap.size w V3):=⟨H4.out.1.later bV H4.out.1.lt,H4.out.2.trans (bV.mono H4.out.2.size)⟩
 replace H6:Hid (G.At V3 b6 (G.grV M.rs M.up) 51∧b4<b6):=⟨H6.out.1.later bV H6.out.1.lt,H6.out.2⟩
 have HS:Hid (G.At V3 b6 (G.grV M.rs M.up) 51):=H6.out.1
 clear hV bV sV
 refine wpT 0 (.agg (G.grV M.rs M.up).toArray) (.inl ⟨rfl,fun w' hw'=>?_⟩) HS.out ?_
 ·exact jc (G.gz hw' HT.out.ok.vlen) rfl
 refine wpG 1 (.pointer (some ⟨t,0,.none⟩)) HS.out ?_
 (try simp [Act.put])
 refine wpA 2 (wpS ?_)
 go_wp2_with fail
 refine HT.out.ep.mono ?_
 rintro r W4 ⟨rfl,hW⟩
 obtain rfl:=hW.symm
 refine ⟨HS.out,?_⟩
 (try simp [Act.put])
 refine wpA 3 (wpS ?_)
 go_wp2_with fail
 refine (G.aar M.rs M.up M.e V3 HT.out.ok).mono ?_
 rintro r V5 ⟨a,n,c,rfl,ho,b5⟩
 obtain ⟨L,hLL⟩:∃ L,G.cz M.rs M.up M.e 3=L:=⟨_,rfl⟩
 rw [hLL] at ho
 have HLL:Hid (G.cz M.rs M.up M.e 3=L∧(∀ x ∈ L,∃ m:Nat,m<3∧x=m)∧L.length≤3):=⟨hLL,by rw [←hLL];exact G.za M.rs M.up M.e 3,by rw [←hLL];exact memL_le3 _ _ _⟩
 obtain ⟨a',n',c',e',hnu⟩:=ho.form
 simp only [Value.slice.injEq] at e'
 obtain ⟨rfl,rfl,rfl⟩:=e'
 have hnl:L.length=n:=hnu.1
 subst hnl
 have hfar:∀ q,(Value.slice a L.length c).ownBlock=some q→V3.heap.size<q:=fun q hq=>by have:=ho.block q hq;omega
 have hrow:∃ bl off,(L.length≠0→a=some ⟨bl,off,.none⟩)∧(∀ (j:Nat) (hj:j<L.length),V5.cell? ⟨bl,off+j,.none⟩=some (.int .i64 L[j])):=by
  by_cases h0:L.length=0
  ·exact ⟨0,0,fun h=>absurd h0 h,fun j hj=>by omega⟩
  ·obtain ⟨bl,off,e,hc⟩:=hnu.2.2 h0
   exact ⟨bl,off,fun _=>e,hc⟩
 obtain ⟨bl,off,hal,hcell⟩:=hrow
 have hbl:L.length≠0→bl<V5.heap.size:=fun h0=>cell_lt (hcell 0 (by omega))
 have HROW:Hid ((L.length≠0→a=some ⟨bl,off,.none⟩)∧(∀ (j:Nat) (hj:j<L.length),V5.cell? ⟨bl,off+j,.none⟩=some (.int .i64 L[j]))∧(L.length≠0→bl<V5.heap.size)):=⟨hal,hcell,hbl⟩
 replace H4:Hid (G.At V5 b4 G.zc.vs 44∧Below w.heap.size w V5):=⟨H4.out.1.later b5 H4.out.1.lt,H4.out.2.trans (b5.mono H4.out.2.size)⟩
 replace H6:Hid (G.At V5 b6 (G.grV M.rs M.up) 51∧b4<b6):=⟨H6.out.1.later b5 H6.out.1.lt,H6.out.2⟩
 replace HS:Hid (G.At V5 b6 (G.grV M.rs M.up) 51):=H6.out.1
 have HGO:Hid (G.GOK M.rs M.up):=HT.out.ok
 clear ho b5 hLL hnu hfar hal hcell hbl HT
 refine ⟨HS.out,?_⟩
 (try simp [Act.put])
 refine wpG 4 (.slice a L.length c) HS.out ?_
 (try simp [Act.put])
 refine wpZ ?_
 (try simp [Act.put])
 obtain ⟨Z,hZ,z0,bZ,sZ⟩:=Go.Proofs.YtpkhdihoijkamaaGreatDoor.D.one V5 (.cells #[.int .i64 0,.int .i64 0,.string ⟨#[]⟩] 44)
 have hb8:∃ b8,V5.heap.size=b8:=⟨_,rfl⟩
 obtain ⟨b8,hb8⟩:=hb8
 have HQ0:Hid (InN w Z b4 b6 b8 bl off M.rs M.up G.zc L):=by
  have A8:G.At Z V5.heap.size G.zc.vs 44:=z0
  rw [hb8] at A8
  exact ⟨H4.out.1.later bZ H4.out.1.lt,H6.out.1.later bZ H6.out.1.lt,A8,fun j hj=>K.cell_later bZ (HROW.out.2.1 j hj),H4.out.2.trans (bZ.mono H4.out.2.size),by have:=H4.out.1.lt;omega,by have:=H6.out.1.lt;omega,fun h0=>by have:=HROW.out.2.2 h0;omega,by have:=H4.out.2.size;omega,by have:=HB4.out;omega,HGO.out⟩
 have HAL:Hid (L.length≠0→a=some ⟨bl,off,.none⟩):=HROW.out.1
 have HB8:Hid (V5.heap.size=b8):=hb8
 clear z0 bZ sZ hb8 H4 H6 HS HROW HB6
 go_wp2
 rw [←hZ,HB8.out]
 clear hZ HB8
 go_loopw [9] (fun i wr=>∃ j:Nat,j≤L.length∧i=.int .i64 j∧InN w wr b4 b6 b8 bl off M.rs M.up (um k ((L.take j).map (G.ah M.rs))) L) (fun i _=>L.length - (intOf i).toNat)
 case atStart=>exact ⟨0,Nat.zero_le _,rfl,HQ0.out⟩
 case round =>
  clear HQ0
  obtain ⟨j,hjl,rfl,hq⟩:=hrel
  by_cases hlt:j<L.length
  ·have hki:(j:Int)<(L.length:Int):=by omega
   obtain rfl:=HAL.out (by omega)
   obtain ⟨m,hm3,hm⟩:=HLL.out.2.1 L[j] (List.getElem_mem hlt)
   have HNX:Hid (um k ((L.take (j+1)).map (G.ah M.rs))=wu k (um k ((L.take j).map (G.ah M.rs))) (G.ah M.rs (m:Int))):=by
    show _=_;unfold um;rw [List.take_succ_eq_append_getElem hlt,List.map_append,List.foldl_append,hm];rfl
   have hm3':(m:Int)<3:=by omega
   have hk8':(k:Int)<8:=by omega
   have hn3:L.length≤3:=HLL.out.2.2
   obtain ⟨bs,hbs⟩:∃ bs,um k ((L.take j).map (G.ah M.rs))=bs:=⟨_,rfl⟩
   rw [hbs] at hq HNX
   obtain ⟨cc,hcc⟩:∃ cc,G.ck k (G.ah M.rs (m:Int))=cc:=⟨_,rfl⟩
   have HSN:Hid (wu k bs (G.ah M.rs (m:Int))=if G.di cc bs=true then cc else bs):=by show _=_;unfold wu;rw [hcc]
   have HQ:Hid (InN w wr b4 b6 b8 bl off M.rs M.up bs L):=hq
   have HPA:Hid ((∃ hj:j<L.length,L[j]=(m:Int))∧m<3∧k<8∧G.ck k (G.ah M.rs (m:Int))=cc):=⟨⟨hlt,hm⟩,hm3,HK.out,hcc⟩
   clear hbs hq hjl hlt hm hm3 hcc hk8
   go_upto_region 7 with fail
   refine ql (S:=fun w'=>InN w w' b4 b6 b8 bl off M.rs M.up bs L) (by kernel_rfl) ?_
   intro Z1 hV bV sV
   replace HQ:Hid (InN w Z1 b4 b6 b8 bl off M.rs M.up bs L):=HQ.out.later bV
   clear hV bV sV
   refine wpG 0 (.slice (some ⟨bl,off,.none⟩) L.length c) HQ.out ?_
   refine wpG 1 (.int .i64 (j:Int)) HQ.out ?_
   refine wpG 2 (.pointer (some ⟨bl,off+j,.none⟩)) HQ.out ?_
   (try simp [Act.put])
   refine wpT 3 (.int .i64 (m:Int)) (.inl ⟨rfl,fun w' hw'=>?_⟩) HQ.out ?_
   ·obtain ⟨⟨hj,hm⟩,hm3,hk,hcc⟩:=HPA.out;have hc:=hw'.row j hj;rw [hm] at hc;go_simp
   refine wpG 4 (.int .i64 (k:Int)) HQ.out ?_
   refine wpG 5 (.pointer (some ⟨b6,0,.none⟩)) HQ.out ?_
   (try simp [Act.put])
   refine wpG 6 (.pointer (some ⟨b6,m*25,.none⟩)) HQ.out ?_
   refine wpG 7 (.pointer (some ⟨b6,m*25+1,.none⟩)) HQ.out ?_
   refine wpG 8 (.pointer (some ⟨b6,m*25+1+k*3,.none⟩)) HQ.out ?_
   (try simp [Act.put])
   refine wpT 9 (.agg #[.int .i64 cc.e,.int .i64 cc.n,.string cc.d]) (.inl ⟨rfl,fun w' hw'=>?_⟩) HQ.out ?_
   ·obtain ⟨⟨hj,hm⟩,hm3,hk,hcc⟩:=HPA.out;exact jc (by rw [←hcc];exact G.p8 (G.ab2 hw'.A6 hw'.ok m hm3 k hk)) rfl
   refine wpT 10 (.agg #[.int .i64 bs.e,.int .i64 bs.n,.string bs.d]) (.inl ⟨rfl,fun w' hw'=>?_⟩) HQ.out ?_
   ·obtain ⟨⟨hj,hm⟩,hm3,hk,hcc⟩:=HPA.out;exact jc (G.p8 hw'.A8.whole) rfl
   (try simp [Act.put])
   refine wpA 11 (wpS ?_)
   go_wp2_with fail
   refine (G.abv cc.e cc.n bs.e bs.n cc.d bs.d Z1).mono ?_
   rintro r Z2 ⟨rfl,b2⟩
   replace HQ:Hid (InN w Z2 b4 b6 b8 bl off M.rs M.up bs L):=HQ.out.later b2
   clear b2
   refine ⟨HQ.out,?_⟩
   (try simp [Act.put])
   refine wpZ ?_
   (try simp [Act.put])
   cases hnw:G.di cc bs
   case false =>
    have HV:Hid (um k ((L.take (j+1)).map (G.ah M.rs))=bs):=by show _=_;rw [HNX.out,HSN.out,hnw];rfl
    have HJ:Hid (j+1≤L.length):=by obtain ⟨⟨hj,_⟩,_⟩:=HPA.out;exact hj
    clear hnw HPA HNX HSN
    go_wp2
    exact ⟨⟨j+1,HJ.out,by go_num,by rw [HV.out];exact HQ.out⟩,by simp [intOf];have:=HJ.out;omega⟩
   case true =>
    have HV:Hid (um k ((L.take (j+1)).map (G.ah M.rs))=cc):=by show _=_;rw [HNX.out,HSN.out,hnw];rfl
    have HJ:Hid (j+1≤L.length):=by obtain ⟨⟨hj,_⟩,_⟩:=HPA.out;exact hj
    have hcr:Z2.cell? ⟨bl,off+j,.none⟩=some (.int .i64 (m:Int)):=by obtain ⟨⟨hj,hm⟩,_⟩:=HPA.out;have:=HQ.out.row j hj;rw [hm] at this;exact this
    have HLC:Hid ((Instr.loadAt 44 (.pointer (some ⟨b6,m*25+1+k*3,.none⟩))).run Tryz.prog Z2=.ok (.agg #[.int .i64 cc.e,.int .i64 cc.n,.string cc.d]) Z2):=by obtain ⟨_,hm3,hk,hcc⟩:=HPA.out;rw [←hcc];exact G.p8 (G.ab2 HQ.out.A6 HQ.out.ok m hm3 k hk)
    obtain ⟨Z3,hst,hq⟩:=HQ.out.put cc
    have HST:Hid ((Instr.storeAt 44 (.pointer (some ⟨b8,0,.none⟩)) (.agg #[.int .i64 cc.e,.int .i64 cc.n,.string cc.d])).run Tryz.prog Z2=.ok () Z3):=hst
    have HQ3:Hid (InN w Z3 b4 b6 b8 bl off M.rs M.up cc L):=hq
    clear hnw HPA HNX HSN hst hq
    go_wp2_with (first|with_reducible refine ak HLC.out rfl rfl ?_|with_reducible refine cu HST.out rfl rfl ?_)
    exact ⟨⟨j+1,HJ.out,by go_num,by rw [HV.out];exact HQ3.out⟩,by simp [intOf];have:=HJ.out;omega⟩
  ·obtain rfl:j=L.length:=by omega
   rw [List.take_length] at hq
   have hki:¬((L.length:Int)<(L.length:Int)):=by omega
   obtain ⟨bs,hbs⟩:∃ bs,fu M k=bs:=⟨_,rfl⟩
   have hq':InN w wr b4 b6 b8 bl off M.rs M.up bs L:=by rw [←hbs];unfold fu;rw [HLL.out.1];exact hq
   have HLC:Hid ((Instr.loadAt 44 (.pointer (some ⟨b8,0,.none⟩))).run Tryz.prog wr=.ok (.agg #[.int .i64 bs.e,.int .i64 bs.n,.string bs.d]) wr):=G.p8 hq'.A8.whole
   obtain ⟨Z4,hst,AR4,hne,hbw,_⟩:=G.putCel (d:=bs) hq'.A4
   have HST:Hid ((Instr.storeAt 44 (.pointer (some ⟨b4,0,.none⟩)) (.agg #[.int .i64 bs.e,.int .i64 bs.n,.string bs.d])).run Tryz.prog wr=.ok () Z4):=hst
   have HR:Hid ((Instr.loadAt 44 (.pointer (some ⟨b4,0,.none⟩))).run Tryz.prog Z4=.ok (.agg #[.int .i64 bs.e,.int .i64 bs.n,.string bs.d]) Z4):=G.p8 AR4.whole
   have HE:Hid (Below w.heap.size w Z4):=hbw _ _ hq'.l4 hq'.bw
   have HMO:Hid (jr M=decide (2≤L.length)):=by show _=_;unfold jr;rw [HLL.out.1]
   have HNB:Hid (fu M k=bs):=hbs
   clear hq hq' hst AR4 hne hbw hbs
   go_wp2_with (first|with_reducible refine ak HLC.out rfl rfl ?_|with_reducible refine cu HST.out rfl rfl ?_)
   refine bodyPost_ret (G.tq Tryz.results31 rfl HR.out) rfl ⟨?_,HE.out⟩
   have:decide ((2:Int)≤(L.length:Int))=decide (2≤L.length):=decide_eq_decide.2 (by omega)
   rw [HNB.out,HMO.out,←this];rfl
end Go.Proofs.YtpkhdihoijkamaaGreatDoor.U
