/- Several texts of this seat in one: UKeptA, UKeptM, ULess, UNums. No statement of the seat is proved here. -/
import Derived.Test.YtpkhdihoijkamaaGreatDoorZA43
import Derived.Test.YtpkhdihoijkamaaGreatDoorZA44
import Derived.Test.YtpkhdihoijkamaaGreatDoorZA37
import Derived.Test.YtpkhdihoijkamaaGreatDoorZA12
import Derived.Test.YtpkhdihoijkamaaGreatDoorZA13
import Derived.Deep.Slices
namespace Go.Proofs.YtpkhdihoijkamaaGreatDoor.U
open Go.ChangeShapes Go.WideShapes Go.ChangeAt Go.RowKit Go.Deep Go.Maps
open Go.Proofs.YtpkhdihoijkamaaGreatDoor.D
theorem changeK_done {M:TM} {c:CmD} (h:SI M) (ok:G.GOK M.rs M.up) (hc:c.f=0) (h0:(lu M c).1=0) :
 (c.o M.s).f=0∧(lu M c).2.s=outS (c.o M.s)∧(lu M c).2.L=ay M.L (c.o M.s).tl:=by
 unfold lu at h0 ⊢
 by_cases hf:(c.o M.s).f=0
 ·rw [if_pos hf] at h0 ⊢
  have hs:=h.out hc hf
  by_cases h1:(ol M (c.o M.s)).1=0
  ·rw [if_pos h1]
   refine ⟨hf,?_,?_⟩
   ·show (ol M (c.o M.s)).2.s=_
    unfold ol at h1 ⊢
    split
    ·rename_i hl
     rw [if_pos hl] at h1
     rcases yx h ok hs with ⟨_,e⟩|⟨_,_,e⟩|⟨_,_,D',e,_⟩
     ·rw [e] at h1;exact absurd (show (7:Int)=0 from h1) (by decide)
     ·rw [e] at h1;exact absurd (show (6:Int)=0 from h1) (by decide)
     ·rw [e]
    ·exact (h.keep ⟨h.e1,h.e9⟩ hs).2.2.1
   ·show ay (ol M (c.o M.s)).2.L (c.o M.s).tl=_
    rw [change1_L]
  ·rw [if_neg h1] at h0
   exact absurd h0 h1
 ·rw [if_neg hf] at h0
  exact absurd h0 hf
theorem floorK_cell {W:World} {b:Nat} {T:TypeId} {rs:List G.Rep} {up:List Bool} (hA:G.At W b (G.grV rs up) T) (h:G.GOK rs up) (m:Nat) (hm:m<3):W.cell? ⟨b,m*25,.none⟩=some (.int .i64 (G.ah rs m).f):=by
 have hml:m<rs.length:=by rw [h.len];exact hm
 have:=(hA.cell (m*25+0)).trans (h.rep m hml 0 (by decide))
 rw [Nat.add_zero] at this
 rw [this,G.aao hml];rfl
theorem loadK_rep {W:World} {b:Nat} {T:TypeId} {rs:List G.Rep} {up:List Bool} (hA:G.At W b (G.grV rs up) T) (h:G.GOK rs up) (m:Nat) (hm:m<3):(Instr.loadAt 47 (.pointer (some ⟨b,m*25,.none⟩))).run Tryz.prog W=.ok (.agg (G.ah rs m).vs.toArray) W:=by
 have hml:m<rs.length:=by rw [h.len];exact hm
 refine run_loadAt_mid W b (m*25) _ _ _ (fun j v hj=>?_) Tryz.underlying47 rfl (by rw [show (G.ah rs m).vs.length=25 from (G.aaa h m hm).vlen _];kernel_rfl)
 have hj25:j<25:=by have:=(List.getElem?_eq_some_iff.1 hj).1;rwa [show (G.ah rs m).vs.length=25 from (G.aaa h m hm).vlen _] at this
 rw [(hA.cell (m*25+j)).trans (h.rep m hml j hj25),←hj,G.aao hml]
theorem neqK_rep {r:G.Rep} (h:G.fo r.l) (W:World):(binOp .neq 47 (.agg r.vs.toArray) (.agg r.vs.toArray)).run Tryz.prog W=.ok (.bool false) W:=by
 rw [run_neq_struct,show (10000:Nat)=9996+4 from rfl,show r.vs=G.aj r.f r.l from rfl,run_eq_repD 9996 r.f r.f r.l r.l W h h,G.eqRep_refl];rfl
theorem kept_says {M:TM} (hA:All M) {cm:CmD} (hc:cm.f=0) (h6:¬6<cm.op) (h0:(au M cm).1.f=0) :
 (¬LessS M.s (au M cm).2.s→(au M cm).2.e=M.e)∧(LessS M.s (au M cm).2.s→M.e<(au M cm).2.e∧(au M cm).2.W=.map []∧∀ m ∈ (au M cm).2.fly,m.c.e<(au M cm).2.e):=by
 have hm:SI (mute M cm):=hA.si.with rfl rfl rfl
 have ok:G.GOK (mute M cm).rs (mute M cm).up:=hA.gi.ok
 have ha:au M cm=(⟨ll,0,0,(lu (mute M cm) cm).1⟩,(lu (mute M cm) cm).2):=by
  unfold au kr
  rw [if_pos hc,if_neg (by omega),if_neg (by omega),if_neg (by omega)]
 rw [ha] at h0 ⊢
 have h1:(lu (mute M cm) cm).1=0:=h0
 have hep:=Ep.change hm ok hc False
 have hd:=changeK_done hm ok hc h1
 have hes:(mute M cm).s=M.s:=rfl
 have hee:(mute M cm).e=M.e:=rfl
 have hef:(mute M cm).fly=M.fly:=rfl
 show (¬LessS M.s (lu (mute M cm) cm).2.s→(lu (mute M cm) cm).2.e=M.e)∧(LessS M.s (lu (mute M cm) cm).2.s→M.e<(lu (mute M cm) cm).2.e∧(lu (mute M cm) cm).2.W=.map []∧∀ m ∈ (lu (mute M cm) cm).2.fly,m.c.e<(lu (mute M cm) cm).2.e)
 rw [←hes,←hee]
 have hfl:∀ m ∈ (mute M cm).fly,m.c.e≤(mute M cm).e:=fun m h=>(hA.ci.ce m.k m.c (hA.gi.ms m h).2.2 (.inr (.inl ⟨m,h,rfl,rfl⟩))).2.1
 generalize mute M cm=N at *
 refine ⟨fun hn=>?_,fun hl=>?_⟩
 ·have h2:=hep.up
  have h3:=hep.rise
  by_cases h4:N.e<(lu N cm).2.e
  ·exact ((h3 h4).elim hn (fun x=>x)).elim
  ·omega
 ·have hl2:xk N.s.t N.s.hd N.s.l (cm.o N.s).t (cm.o N.s).h (cm.o N.s).l:=by rw [hd.2.1] at hl;exact hl
  have hs:=hm.out hc hd.1
  have hch:lu N cm=(0,{ (ol N (cm.o N.s)).2 with L:=ay (ol N (cm.o N.s)).2.L (cm.o N.s).tl })∨(lu N cm).1≠0:=by
   unfold lu
   rw [if_pos hd.1]
   by_cases h9:(ol N (cm.o N.s)).1=0
   ·rw [if_pos h9];exact .inl rfl
   ·rw [if_neg h9];exact .inr h9
  have hc1:ol N (cm.o N.s)=gq N (outS (cm.o N.s)):=by unfold ol;rw [if_pos hl2]
  rcases hch with hch|hch
  ·rw [hch,hc1]
   have h10:(gq N (outS (cm.o N.s))).1=0:=by
    have h5:=h1
    unfold lu at h5
    rw [if_pos hd.1,hc1] at h5
    by_cases h9:(gq N (outS (cm.o N.s))).1=0
    ·exact h9
    ·rw [if_neg h9] at h5;exact h5
   rcases yx hm ok hs with ⟨_,e⟩|⟨_,_,e⟩|⟨_,_,D',e,_⟩
   ·rw [e] at h10;exact absurd (show (7:Int)=0 from h10) (by decide)
   ·rw [e] at h10;exact absurd (show (6:Int)=0 from h10) (by decide)
   ·rw [e]
    exact ⟨by show N.e<N.e+1;omega,rfl,fun m h=>by have:=hfl m h;show m.c.e<N.e+1;omega⟩
  ·exact absurd h1 hch
structure KO (e:Int) (g:List G.Rep) (M:TM):Prop where
 ep:M.e=e
 W:M.W=.map []
 fl:∀ m ∈ M.fly,m.c.e<e
 sm:∀ i:Nat,i<3→(G.ah g i).f=e→G.ah M.rs i=G.ah g i
theorem KO.deliv {e:Int} {g:List G.Rep} {M:TM} (h:KO e g M) (hG:GI M.gs) (m:ed) (hm:m ∈ M.fly) (i:Nat) (st:Bool):KO e g (q8 M m i st):=by
 have hk:=hG.ms m hm
 have hf:=h.fl m hm
 have hl:M.rs.length=3:=hG.ok.len
 obtain ⟨d,hd,hd3⟩:=dst_nat hk
 have hs:∀ j:Nat,j<3→(G.ah g j).f=e→G.ah (G.ny M.rs M.up m.dst m.k m.c) j=G.ah g j:=by
  intro j hj he
  have h1:=h.sm j hj he
  rw [←h1]
  unfold G.ny
  split
  ·rw [hd]
   by_cases hjd:j=d
   ·subst hjd
    have hfj:(G.ah M.rs (j:Int)).f=e:=by rw [h1];exact he
    have ha:G.ib (G.ah M.rs (j:Int)).f (G.ah M.rs (j:Int)).l m.k m.c=(G.ah M.rs (j:Int)).l:=by
     unfold G.ib;rw [if_neg (by omega)]
    rw [ha]
    have hjl:j<M.rs.length:=by omega
    rw [G.aao (by simpa using hjl),G.aao hjl]
    simp
   ·have hjl:j<M.rs.length:=by omega
    rw [G.aao (by simpa using hjl),G.aao hjl]
    simp [List.getElem_set]
    intro h9
    omega
  ·rfl
 unfold q8
 split
 ·exact ⟨h.ep,h.W,h.fl,hs⟩
 ·exact ⟨h.ep,h.W,fun x hx=>h.fl x (List.mem_of_mem_eraseIdx hx),hs⟩
theorem KO.deliver {e:Int} {g:List G.Rep} {M:TM} (h:KO e g M) (hG:GI M.gs) (i:Int) (st:Bool):KO e g (l7 M i st).2.2:=by
 unfold l7
 split
 ·exact h
 ·rename_i m hm
  have hmem:m ∈ M.fly:=by
   split at hm
   ·exact List.mem_of_getElem? hm
   ·cases hm
  have h1:=h.deliv hG m hmem i.toNat st
  split
  ·have hc:qw (q8 M m i.toNat st) m=q8 M m i.toNat st:=by
    unfold qw
    rw [h1.W,if_neg (by simp [Maps.has])]
   show KO e g (qw (q8 M m i.toNat st) m)
   rw [hc];exact h1
  ·exact h1
theorem All.deliver {M:TM} (h:All M) (i:Int) (st:Bool):All (l7 M i st).2.2 :=
 ⟨h.si.with (by unfold l7 qw q8 ww;repeat' split
                all_goals rfl) (by unfold l7 qw q8 ww;repeat' split
                                   all_goals rfl) (by unfold l7 qw q8 ww;repeat' split
                                                      all_goals rfl),h.gi.steps (gs_deliver (S:=fun _=>True) M i st),h.bi.with (deliverM_L M i st),h.ci.steps (gs_deliver (S:=fun _=>True) M i st) h.gi⟩
theorem mayK (s:KS) (a:Option Addr) (c:Nat) (who:Int) (wr:Bool) (w:World) (hr:Go.Proofs.YtpkhdihoijkamaaGreatDoor.Row w a s.l.length s.l) :
 Calls Tryz.prog 21 #[.agg (s.vs a c).toArray,.int .i64 who,.bool wr] w fun e w'=>e=.returned (.bool (jy s.t s.hd s.l who wr))∧Below w.heap.size w w':=zz s.g s.t s.hd a s.l.length c s.y s.l who wr w hr
def lessO (s s':KS) (who:Int):Bool:=(jy s.t s.hd s.l who true && !jy s'.t s'.hd s'.l who true) || (jy s.t s.hd s.l who false && !jy s'.t s'.hd s'.l who false)
def uz (s s':KS) (n:Nat):Bool:=(List.range n).any fun k=>lessO s s' ((k:Int)+1)
theorem lessN_succ (s s':KS) (n:Nat):uz s s' (n+1)=(uz s s' n || lessO s s' ((n:Int)+1)):=by
 unfold uz
 rw [List.range_succ,List.any_append]
 simp
theorem lessN_4 (s s':KS):uz s s' 4=decide (LessS s s'):=by
 rw [Bool.eq_iff_iff,decide_eq_true_iff]
 unfold uz LessS xk
 rw [List.any_eq_true]
 have h1:∀ k:Nat,lessO s s' ((k:Int)+1)=wm s.t s.hd s.l s'.t s'.hd s'.l ((k:Int)+1):=fun k=>by unfold lessO wm;rw [Bool.or_comm]
 constructor
 ·rintro ⟨k,hk,h⟩
  exact ⟨k,by simpa using hk,by rw [←h1];exact h⟩
 ·rintro ⟨k,hk,h⟩
  exact ⟨k,by simpa using hk,by rw [h1];exact h⟩
structure InE (w wr:World) (t b b8 b10:Nat) (M':TM) (p:TP) (s:KS) (a1:Option Addr) (c1:Nat) (a2:Option Addr) (c2:Nat):Prop where
 tg:aa w wr t M' p
 pb:p.b=b
 A8:At wr b8 (s.vs a1 c1) 36
 A10:At wr b10 (M'.s.vs a2 c2) 36
 r8:Go.Proofs.YtpkhdihoijkamaaGreatDoor.Row wr a1 s.l.length s.l
 r10:Go.Proofs.YtpkhdihoijkamaaGreatDoor.Row wr a2 M'.s.l.length M'.s.l
theorem InE.later {w wr wx:World} {t b b8 b10:Nat} {M':TM} {p:TP} {s:KS} {a1:Option Addr} {c1:Nat} {a2:Option Addr} {c2:Nat} (h:InE w wr t b b8 b10 M' p s a1 c1 a2 c2) (hb:Below wr.heap.size wr wx):InE w wx t b b8 b10 M' p s a1 c1 a2 c2 :=
 ⟨h.tg.later hb,h.pb,h.A8.later hb h.A8.lt,h.A10.later hb h.A10.lt,h.r8.later hb,h.r10.later hb⟩
section
variable {H:Type} {enc:TypeId × Value→H}
theorem open_numrows {W:World} {fuel:Nat} {cs:List Value} {x:DataW H × List MemPlace} (h:DataW.trod enc Tryz.prog W 0 (fun _=>true) true fuel 25 cs=some x) :
 ∃ a n c l,cs=[.slice a n c]∧Go.Proofs.YtpkhdihoijkamaaGreatDoor.dz W a n l:=by
 rcases open_slice1 Tryz.underlying25 (by kernel_rfl) h with ⟨rfl,_⟩|⟨a,len,cap,m,n,V0,D0,P0,rfl,_,hl,hm,hmm,_,hx⟩
 ·exact ⟨.none,0,0,[],rfl,rfl,by decide,fun h=>absurd rfl h⟩
 ·have hlm:len≤m:=by rw [hmm];simpa using hl
  have hml:maxLen≤9223372036854775807:=by unfold maxLen;decide
  have each:∀ i,i<len→∃ q:Int,W.cell? (a.add i)=some (.int .i64 q):=by
   intro i hi
   obtain ⟨e0,t0⟩:=hx i (by omega)
   obtain ⟨n0,h0,_,_⟩:=DataW.trod_int Tryz.underlying3 t0
   simp only [List.cons.injEq,and_true] at h0
   exact ⟨n0,by rw [e0,h0]⟩
  obtain ⟨q,hq⟩:=choose_lt each
  refine ⟨some a,len,cap,(List.range len).map q,rfl,by simp,by omega,fun hn=>?_⟩
  obtain ⟨b,off,spot⟩:=a
  have hs:spot=.none:=by simpa [Addr.add] using World.cell?_spot (hq 0 (by omega))
  subst hs
  refine ⟨b,off,rfl,fun i hi=>?_⟩
  have hi':i<len:=by simpa using hi
  have:=hq i hi'
  rw [adg] at this
  simpa using this
set_option maxRecDepth 100000 in
theorem open_nums {W:World} {base:Nat} {v:Value} {d:DataW H} {ps:List MemPlace} (hv:Value.okWide Tryz.prog W .any base 25 v) (h:DataW.Trod enc Tryz.prog W 0 (fun _=>true) true 25 v d ps) :
 ∃ a n c l,v=.slice a n c∧Go.Proofs.YtpkhdihoijkamaaGreatDoor.dz W a n l:=by
 obtain ⟨a,n,c,rfl⟩:=okWide_slice Tryz.underlying25 hv
 obtain ⟨fuel,hf⟩:=h
 obtain ⟨a',n',c',l,e,hrow⟩:=open_numrows hf
 simp [Value.cells] at e
 obtain ⟨rfl,rfl,rfl⟩:=e
 exact ⟨_,_,_,l,rfl,hrow⟩
end
end Go.Proofs.YtpkhdihoijkamaaGreatDoor.U
