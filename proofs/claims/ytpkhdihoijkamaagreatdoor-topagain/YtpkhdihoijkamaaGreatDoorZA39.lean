/- Several texts of this seat in one: UGs, UCi, UBox, UAskT, UAll. No statement of the seat is proved here. -/
import Derived.Test.YtpkhdihoijkamaaGreatDoorZA37
import Derived.Test.YtpkhdihoijkamaaGreatDoorZA12
import Derived.Test.YtpkhdihoijkamaaGreatDoorZA26
namespace Go.Proofs.YtpkhdihoijkamaaGreatDoor.U
open Go.ChangeShapes Go.WideShapes Go.ChangeAt Go.RowKit Go.Deep Go.Maps
open Go.Proofs.YtpkhdihoijkamaaGreatDoor.D
structure GS where
 rs:List G.Rep
 up:List Bool
 e:Int
 fly:List ed
 nm:Int
def TM.gs (M:TM):GS:=⟨M.rs,M.up,M.e,M.fly,M.nm⟩
inductive Step (S:Nat→Prop):GS→GS→Prop
 | up (g:GS) (i:Nat) (b:Bool):Step S g { g with up:=g.up.set i b }
 | lose (g:GS) (i:Nat):Step S g { g with fly:=g.fly.eraseIdx i }
 | del (g:GS) (m:ed) (hm:m ∈ g.fly):Step S g { g with rs:=G.ny g.rs g.up m.dst m.k m.c }
 | sync (g:GS) (i:Nat) (hi:i<3):Step S g { g with rs:=G.kz g.rs g.up g.e i }
 | read (g:GS) (k:Nat) (hk:k<8):Step S g { g with rs:=G.kg g.rs g.up g.e k }
 | send (g:GS) (k:Nat) (hk:k<8) (hS:S k) (da:ByteArray) (tag:Int):Step S g { g with nm:=g.nm+1,fly:=g.fly ++ [⟨0,k,⟨g.e,g.nm+1,da⟩,tag⟩,⟨1,k,⟨g.e,g.nm+1,da⟩,tag⟩,⟨2,k,⟨g.e,g.nm+1,da⟩,tag⟩] }
 | ready (g:GS):Step S g { g with rs:=G.d9 g.rs g.up g.e }
 | fence (g:GS) (h:2≤(G.cz g.rs g.up g.e 3).length):Step S g { g with e:=g.e+1,rs:=G.d9 g.rs g.up (g.e+1),nm:=0 }
 | none (g:GS):Step S g { g with fly:=[] }
inductive Steps (S:Nat→Prop):GS→GS→Prop
 | refl (g:GS):Steps S g g
 | more {a b c:GS}:Steps S a b→Step S b c→Steps S a c
section
variable {S:Nat→Prop}
theorem Steps.one {a b:GS} (h:Step S a b):Steps S a b:=.more (.refl a) h
theorem Steps.trans {a b c:GS} (h:Steps S a b) (h2:Steps S b c):Steps S a c:=by
 induction h2 with
 | refl=>exact h
 | more _ s ih=>exact .more ih s
theorem Steps.keeps {P:GS→Prop} (hs:∀ a b,P a→Step S a b→P b) {a b:GS} (h:Steps S a b) (ha:P a):P b:=by
 induction h with
 | refl=>exact ha
 | more _ s ih=>exact hs _ _ ih s
theorem gs_ready (M:TM):Steps S M.gs (dx M).gs:=by
 unfold dx;split
 ·exact .one (Step.ready M.gs)
 ·exact .refl _
theorem gs_fence (M:TM) (h:mi M=true) {M':TM} (hM:M'.gs=⟨G.d9 (G.d9 M.rs M.up M.e) M.up (M.e+1),M.up,M.e+1,M.fly,0⟩):Steps S M.gs M'.gs:=by
 rw [hM]
 refine .more (.one (Step.ready M.gs)) ?_
 exact Step.fence { M.gs with rs:=G.d9 M.rs M.up M.e } (of_decide_eq_true h)
theorem gs_begin {M:TM} (h:SI M) (ok:G.GOK M.rs M.up) {s:KS} (hs:s.f=0):Steps S M.gs (gq M s).2.gs:=by
 rcases yx h ok hs with ⟨_,e⟩|⟨_,_,e⟩|⟨hr,_,D',e,_⟩
 ·rw [e];exact .refl _
 ·rw [e];exact gs_ready M
 ·rw [e];exact gs_fence M hr rfl
theorem zb (M:TM) (c:CmD):Steps S M.gs (ic M c).gs:=by
 unfold ic;split
 ·exact gs_ready M
 ·exact .refl _
theorem gs_read (M:TM) (c:CmD) (hc:c.f=0):Steps S M.gs (j4 M c).2.2.gs:=by
 have hk:=cmd_at hc
 unfold j4;split
 ·split
  ·exact .more (zb M c) (Step.read (ic M c).gs c.at'.toNat (by omega))
  ·exact zb M c
 ·exact zb M c
theorem gs_send (M:TM) (c:CmD) (hc:c.f=0) (hS:S c.at'.toNat):Step S M.gs (rq M c).gs:=by
 have hk:=cmd_at hc
 exact Step.send M.gs c.at'.toNat (by omega) hS c.da ((M.dn.length:Int)+1)
theorem gs_write (M:TM) (c:CmD) (hc:c.f=0) (hS:S c.at'.toNat):Steps S M.gs (qb M c).2.2.gs:=by
 unfold qb;split
 ·unfold qp;split
  ·exact zb M c
  ·exact .more (zb M c) (gs_send _ c hc hS)
 ·exact zb M c
theorem gs_compare (M:TM) (c:CmD) (hc:c.f=0) (hS:S c.at'.toNat):Steps S M.gs (jg M c).2.2.gs:=by
 have hk:=cmd_at hc
 unfold jg;split
 ·unfold zt;split
  ·split
   ·split
    ·exact zb M c
    ·refine .more (.more (zb M c) (Step.read (ic M c).gs c.at'.toNat (by omega))) ?_
     exact Step.send { (ic M c).gs with rs:=G.kg (ic M c).rs (ic M c).up (ic M c).e c.at'.toNat } c.at'.toNat (by omega) hS c.da (((ic M c).dn.length:Int)+1)
   ·exact zb M c
  ·exact zb M c
 ·exact zb M c
theorem gs_change {M:TM} (h:SI M) (ok:G.GOK M.rs M.up) {c:CmD} (hc:c.f=0):Steps S M.gs (lu M c).2.gs:=by
 unfold lu
 split
 ·rename_i h0
  have hs:=h.out hc h0
  have h1:Steps S M.gs (ol M (c.o M.s)).2.gs:=by
   unfold ol;split
   ·exact gs_begin h ok hs
   ·have hk:=h.keep ⟨h.e1,h.e9⟩ hs
    have:(j5 M M.e (outS (c.o M.s))).gs=M.gs:=by
     show GS.mk M.rs M.up (j5 M M.e (outS (c.o M.s))).e M.fly M.nm=_
     rw [hk.2.1];rfl
    show Steps S M.gs (j5 M M.e (outS (c.o M.s))).gs
    rw [this];exact .refl _
  split
  ·exact h1
  ·exact h1
 ·exact .refl _
theorem gs_askS {M:TM} (h:SI M) (ok:G.GOK M.rs M.up) (c:CmD) (hS:c.op=8∨c.op=9→S c.at'.toNat):Steps S M.gs (av M c).2.gs:=by
 unfold av
 split
 ·rename_i hc
  split
  ·unfold kr
   split
   ·exact gs_read (iw M c) c hc
   ·split
    ·rename_i e;exact gs_write (iw M c) c hc (hS (.inl e))
    ·split
     ·rename_i e;exact gs_compare (iw M c) c hc (hS (.inr e))
     ·exact gs_change (M:=iw M c) (h.with rfl rfl rfl) ok hc
  ·exact .refl _
 ·exact .refl _
theorem gs_count (M:TM) (m:ed):(qw M m).gs=M.gs:=by
 unfold qw;repeat' split
 all_goals rfl
theorem gs_deliv (M:TM) (m:ed) (hm:m ∈ M.fly) (i:Nat) (st:Bool):Steps S M.gs (q8 M m i st).gs:=by
 unfold q8;split
 ·exact .one (Step.del M.gs m hm)
 ·exact .more (.one (Step.del M.gs m hm)) (Step.lose { M.gs with rs:=G.ny M.rs M.up m.dst m.k m.c } i)
theorem gs_deliver (M:TM) (i:Int) (st:Bool):Steps S M.gs (l7 M i st).2.2.gs:=by
 unfold l7
 split
 ·exact .refl _
 ·rename_i m hm
  have hmem:m ∈ M.fly:=by
   by_cases h0:0≤i
   ·rw [if_pos h0] at hm;exact List.mem_of_getElem? hm
   ·rw [if_neg h0] at hm;cases hm
  split
  ·show Steps S M.gs (qw (q8 M m i.toNat st) m).gs
   rw [gs_count];exact gs_deliv M m hmem _ _
  ·exact gs_deliv M m hmem _ _
theorem gs_lose (M:TM) (i:Int):Steps S M.gs (ug M i).2.gs:=by
 unfold ug;split
 ·exact .one (Step.lose M.gs i.toNat)
 ·exact .refl _
theorem gs_up (M:TM) (i:Int) (b:Bool):Steps S M.gs (upM M i b).2.gs:=by
 unfold upM;split
 ·exact .one (Step.up M.gs i.toNat b)
 ·exact .refl _
theorem gs_sync (M:TM) (i:Int):Steps S M.gs (qg M i).2.gs:=by
 unfold qg;split
 ·rename_i hi
  split
  ·have:=Step.sync (S:=S) M.gs i.toNat (by omega)
   rw [show ((i.toNat:Nat):Int)=i by omega] at this
   exact .one this
  ·exact .refl _
 ·exact .refl _
theorem gs_power {M:TM} (h:SI M) (ok:G.GOK M.rs M.up):Steps S M.gs (iq M).2.gs:=by
 have h1:=gs_begin (S:=S) h ok (pow_ok h.f)
 unfold iq;split
 ·exact h1
 ·exact h1
theorem gs_new {M:TM} (h:SI M) (ok:G.GOK M.rs M.up) (h0:(dm M.e M.s M.D M.rs M.up).1=0):mi M=true∧(dm M.e M.s M.D M.rs M.up).2.gs=⟨G.d9 (G.d9 M.rs M.up M.e) M.up (M.e+1),M.up,M.e+1,[],0⟩∧(dm M.e M.s M.D M.rs M.up).2.s=M.s∧(dm M.e M.s M.D M.rs M.up).2.W=.map []∧(dm M.e M.s M.D M.rs M.up).2.dn=[]:=by
 rcases yx (M:=qx M.e M.s M.D M.rs M.up) h.new0 ok (show M.s.f=0 from h.f) with ⟨_,e⟩|⟨_,_,e⟩|⟨hr,_,D',e,h2⟩
 ·unfold dm at h0;rw [e] at h0;exact absurd h0 (by simp)
 ·unfold dm at h0;rw [e] at h0;exact absurd h0 (by simp)
 ·unfold dm;rw [e];exact ⟨hr,rfl,rfl,rfl,rfl⟩
theorem gs_playS {M:TM} (h:SI M) (ok:G.GOK M.rs M.up) (x:ig) (hS:(x.kind.toList == [97,115,107])=true→(cmA x).op=8∨(cmA x).op=9→S (cmA x).at'.toNat):Steps S M.gs (gy M x).2.gs:=by
 unfold gy
 repeat' split
 ·rename_i e;exact gs_askS h ok _ (hS e)
 ·exact gs_deliver _ _ _
 ·exact gs_lose _ _
 ·exact gs_up _ _ _
 ·exact gs_up _ _ _
 ·exact gs_sync _ _
 ·exact gs_power h ok
 ·rename_i h0
  obtain ⟨hr,e,_⟩:=gs_new h ok h0
  rw [e]
  refine .more (.more (.one (Step.none M.gs)) (Step.ready { M.gs with fly:=[] })) ?_
  exact Step.fence { M.gs with fly:=[],rs:=G.d9 M.rs M.up M.e } (of_decide_eq_true hr)
 ·exact .refl _
end
theorem gs_ask {M:TM} (h:SI M) (ok:G.GOK M.rs M.up) (c:CmD):Steps (fun _=>True) M.gs (av M c).2.gs:=gs_askS h ok c fun _=>trivial
theorem gs_play {M:TM} (h:SI M) (ok:G.GOK M.rs M.up) (x:ig):Steps (fun _=>True) M.gs (gy M x).2.gs:=gs_playS h ok x fun _ _=>trivial
structure GI (g:GS):Prop where
 ok:G.GOK g.rs g.up
 fl:∀ i:Nat,i<3→(G.ah g.rs i).f≤g.e
 two:∃ i j:Nat,i<j∧j<3∧(G.ah g.rs i).f=g.e∧(G.ah g.rs j).f=g.e
 ms:∀ m ∈ g.fly,0≤m.dst∧m.dst<3∧m.k<8
theorem GI.fix {g:GS} (h:GI g):G.d9 g.rs g.up g.e=g.rs:=by
 unfold G.d9
 by_cases h2:2≤(G.cz g.rs g.up (g.e - 1) 3).length
 ·obtain ⟨x,y,hxy,hy,hx1,hy1⟩:=G.two_of g.rs g.up (g.e - 1) h2
  have fx:=G.abf hx1
  have fy:=G.abf hy1
  obtain ⟨i,j,hij,hj,fi,fj⟩:=h.two
  have:x=i∨x=j∨y=i∨y=j:=by omega
  rcases this with rfl|rfl|rfl|rfl <;> omega
 ·rw [if_neg h2]
theorem abm {rs:List G.Rep} {up:List Bool} (hG:G.GOK rs up) (e:Int) (k:Nat) (i:Nat) (hi:i<3) :
 G.ah (G.kg rs up e k) i=if G.readB rs up e=true∧G.takes rs up e i=true then ⟨(G.ah rs i).f,(G.ah rs i).l.set k (G.ru rs up e k)⟩ else G.ah rs i:=by
 unfold G.kg
 by_cases hr:G.readB rs up e=true
 ·rw [if_pos hr,G.spread_get k _ _ rs hG (G.za rs up e 3) i hi]
  have:=G.mem_iff rs up e 3 i
  by_cases ht:G.takes rs up e i=true
  ·rw [if_pos (this.2 ⟨hi,ht⟩),if_pos ⟨hr,ht⟩]
  ·rw [if_neg (fun h=>ht (this.1 h).2),if_neg (fun h=>ht h.2)]
 ·rw [if_neg hr,if_neg (fun h=>hr h.1)]
theorem dst_nat {m:ed} (h:0≤m.dst∧m.dst<3∧m.k<8):∃ d:Nat,m.dst=d∧d<3:=⟨m.dst.toNat,by omega,by omega⟩
theorem GI.step {S:Nat→Prop} {a b:GS} (h:GI a) (s:Step S a b):GI b:=by
 cases s with
 | up i b=>exact ⟨h.ok.up _ _,h.fl,h.two,h.ms⟩
 | lose i=>exact ⟨h.ok,h.fl,h.two,fun m hm=>h.ms m (List.mem_of_mem_eraseIdx hm)⟩
 | del m hm =>
   have hk:=h.ms m hm
   obtain ⟨d,hd,hd3⟩:=dst_nat hk
   have hg:∀ i:Nat,i<3→(G.ah (G.ny a.rs a.up m.dst m.k m.c) i).f=(G.ah a.rs i).f:=fun i hi=>by rw [hd];exact (G.delG_get h.ok d m.k hd3 m.c i hk.2.2 hi).1
   obtain ⟨i,j,hij,hj,fi,fj⟩:=h.two
   exact ⟨G.delG_ok h.ok _ _ _,fun i hi=>by show (G.ah (G.ny a.rs a.up m.dst m.k m.c) i).f≤a.e;rw [hg i hi];exact h.fl i hi,⟨i,j,hij,hj,(hg i (by omega)).trans fi,(hg j hj).trans fj⟩,h.ms⟩
 | sync n hn =>
   have hg:∀ i:Nat,i<3→(G.ah (G.kz a.rs a.up a.e n) i).f=(G.ah a.rs i).f∨(G.ah (G.kz a.rs a.up a.e n) i).f=a.e:=fun i hi=>by
    rw [G.adi h.ok a.e n hn i hi];split
    ·exact .inr rfl
    ·exact .inl rfl
   obtain ⟨i,j,hij,hj,fi,fj⟩:=h.two
   refine ⟨G.syncG_ok h.ok _ _,fun i hi=>?_,⟨i,j,hij,hj,?_,?_⟩,h.ms⟩
   ·show (G.ah (G.kz a.rs a.up a.e n) i).f≤a.e
    rcases hg i hi with e|e <;> rw [e]
    ·exact h.fl i hi
    ·exact Int.le_refl _
   ·show (G.ah (G.kz a.rs a.up a.e n) i).f=a.e
    rcases hg i (by omega) with e|e <;> rw [e];exact fi
   ·show (G.ah (G.kz a.rs a.up a.e n) j).f=a.e
    rcases hg j hj with e|e <;> rw [e];exact fj
 | read k hk =>
   have hg:∀ i:Nat,i<3→(G.ah (G.kg a.rs a.up a.e k) i).f=(G.ah a.rs i).f:=fun i hi=>by rw [abm h.ok a.e k i hi];split <;> rfl
   obtain ⟨i,j,hij,hj,fi,fj⟩:=h.two
   exact ⟨G.readG_ok h.ok _ _,fun i hi=>by show (G.ah (G.kg a.rs a.up a.e k) i).f≤a.e;rw [hg i hi];exact h.fl i hi,⟨i,j,hij,hj,(hg i (by omega)).trans fi,(hg j hj).trans fj⟩,h.ms⟩
 | send k hk _ da tag =>
   refine ⟨h.ok,h.fl,h.two,fun m hm=>?_⟩
   rcases List.mem_append.1 hm with h1|h1
   ·exact h.ms m h1
   ·simp only [List.mem_cons,List.not_mem_nil,or_false] at h1
    rcases h1 with rfl|rfl|rfl
    ·exact ⟨Int.le_refl 0,show (0:Int)<3 by decide,hk⟩
    ·exact ⟨show (0:Int)≤1 by decide,show (1:Int)<3 by decide,hk⟩
    ·exact ⟨show (0:Int)≤2 by decide,show (2:Int)<3 by decide,hk⟩
 | ready=>show GI { a with rs:=G.d9 a.rs a.up a.e };rw [h.fix];exact h
 | fence h2 =>
   refine ⟨G.fenG_ok h.ok _,fun i hi=>G.fenG_floor h.ok h.fl i hi,?_,h.ms⟩
   obtain ⟨x,y,hxy,hy,hx1,hy1⟩:=G.two_of a.rs a.up a.e h2
   have hg:∀ i:Nat,i<3→G.takes a.rs a.up a.e i=true→(G.ah (G.d9 a.rs a.up (a.e+1)) i).f=a.e+1:=fun i hi ht=>by
    rw [G.abq h.ok (a.e+1) i hi,show a.e+1 - 1=a.e by omega,if_pos ⟨h2,ht⟩]
   exact ⟨x,y,hxy,hy,hg x (by omega) hx1,hg y hy hy1⟩
 | none=>exact ⟨h.ok,h.fl,h.two,fun m hm=>by cases hm⟩
theorem GI.steps {S:Nat→Prop} {a b:GS} (h:GI a) (s:Steps S a b):GI b:=s.keeps (fun _ _ h s=>h.step s) h
theorem openGI (D:DM):GI (dh D).gs:=by
 have h0:G.GOK (G.newR 3) (G.newU 3):=G.yh 3
 refine ⟨(G.fenG_ok (G.fenG_ok h0 1) 2:G.GOK (G.d9 (G.d9 (G.newR 3) (G.newU 3) 1) (G.newU 3) 2) (G.newU 3)),fun i hi=>?_,⟨0,1,by decide,by decide,by kernel_rfl,by kernel_rfl⟩,fun m hm=>by cases hm⟩
 match i,hi with
 | 0,_=>exact of_decide_eq_true (by kernel_rfl)
 | 1,_=>exact of_decide_eq_true (by kernel_rfl)
 | 2,_=>exact of_decide_eq_true (by kernel_rfl)
def AC (X:Nat→G.Cel→Prop) (g:GS) (k:Nat) (c:G.Cel):Prop:=G.CS g.rs k c∨(∃ m ∈ g.fly,m.k=k∧m.c=c)∨X k c
structure CI (X:Nat→G.Cel→Prop) (g:GS):Prop where
 e1:1≤g.e
 n0:0≤g.nm
 ce:∀ k c,k<8→AC X g k c→0≤c.e∧c.e≤g.e∧0≤c.n∧(c.e=g.e→c.n≤g.nm)
 un:∀ k c d,k<8→AC X g k c→AC X g k d→c.e=d.e→c.n=d.n→c=d
theorem CI.of {X:Nat→G.Cel→Prop} {a b:GS} (h:CI X a) (he:b.e=a.e) (hn:b.nm=a.nm) (hc:∀ k c,k<8→AC X b k c→AC X a k c):CI X b :=
 ⟨by rw [he];exact h.e1,by rw [hn];exact h.n0,fun k c hk ha=>by rw [he,hn];exact h.ce k c hk (hc k c hk ha),fun k c d hk ha hb=>h.un k c d hk (hc k c hk ha) (hc k d hk hb)⟩
theorem AC.fly {X:Nat→G.Cel→Prop} {a b:GS} (hr:b.rs=a.rs) (hf:∀ m ∈ b.fly,m ∈ a.fly) {k:Nat} {c:G.Cel} (h:AC X b k c):AC X a k c:=by
 rcases h with h|⟨m,hm,h⟩|h
 ·exact .inl (by rw [←hr];exact h)
 ·exact .inr (.inl ⟨m,hf m hm,h⟩)
 ·exact .inr (.inr h)
theorem CS_read {rs:List G.Rep} {up:List Bool} (hG:G.GOK rs up) {e:Int} {k j:Nat} (hk:k<8) {c:G.Cel} (h:G.CS (G.kg rs up e k) j c):G.CS rs j c:=by
 rcases h with h|⟨i,hi,h⟩
 ·exact .inl h
 ·rw [abm hG e k i hi] at h
  split at h
  ·rename_i hr
   by_cases hj:j=k
   ·subst hj
    have:G.ck j (G.Rep.mk (G.ah rs i).f ((G.ah rs i).l.set j (G.ru rs up e j)))=G.ru rs up e j:=G.aaw (by rw [(G.aaa hG i hi).len];exact hk)
    rw [this,G.readC_is rs up e j hk hr.1] at h
    rw [h];exact G.CS_best rs up e j
   ·have:G.ck j (G.Rep.mk (G.ah rs i).f ((G.ah rs i).l.set k (G.ru rs up e k)))=G.ck j (G.ah rs i):=G.getD_set_ne hj
    rw [this] at h
    exact .inr ⟨i,hi,h⟩
  ·exact .inr ⟨i,hi,h⟩
theorem CI.step {S:Nat→Prop} {X:Nat→G.Cel→Prop} {a b:GS} (h:CI X a) (hG:GI a) (s:Step S a b):CI X b:=by
 cases s with
 | up i b=>exact h.of rfl rfl fun _ _ _ hc=>hc
 | lose i=>exact h.of rfl rfl fun _ _ _ hc=>AC.fly (a:=a) (b:={ a with fly:=a.fly.eraseIdx i }) rfl (fun m hm=>List.mem_of_mem_eraseIdx hm) hc
 | del m hm =>
   have hk:=hG.ms m hm
   obtain ⟨d,hd,hd3⟩:=dst_nat hk
   refine h.of rfl rfl fun k c hk8 hc=>?_
   rcases hc with hc|hc|hc
   ·have hc':G.CS (G.ny a.rs a.up m.dst m.k m.c) k c:=hc
    rw [hd] at hc'
    rcases G.CS_del hG.ok hd3 hk.2.2 hc' with h1|⟨h1,h2⟩
    ·exact .inl h1
    ·exact .inr (.inl ⟨m,hm,h1.symm,h2.symm⟩)
   ·exact .inr (.inl hc)
   ·exact .inr (.inr hc)
 | sync n hn =>
  refine h.of rfl rfl fun k c hk hc=>?_
  rcases hc with hc|hc|hc
  ·exact .inl (G.CS_sync hG.ok hn hk hc)
  ·exact .inr (.inl hc)
  ·exact .inr (.inr hc)
 | read n hn =>
  refine h.of rfl rfl fun k c hk hc=>?_
  rcases hc with hc|hc|hc
  ·exact .inl (CS_read hG.ok hn hc)
  ·exact .inr (.inl hc)
  ·exact .inr (.inr hc)
 | send n hn _ da tag =>
   have hc:∀ k c,k<8→AC X { a with nm:=a.nm+1,fly:=a.fly ++ [⟨0,n,⟨a.e,a.nm+1,da⟩,tag⟩,⟨1,n,⟨a.e,a.nm+1,da⟩,tag⟩,⟨2,n,⟨a.e,a.nm+1,da⟩,tag⟩] } k c→AC X a k c∨(k=n∧c=⟨a.e,a.nm+1,da⟩):=by
    intro k c hk hc
    rcases hc with hc|⟨m,hm,h1,h2⟩|hc
    ·exact .inl (.inl hc)
    ·rcases List.mem_append.1 hm with h3|h3
     ·exact .inl (.inr (.inl ⟨m,h3,h1,h2⟩))
     ·simp only [List.mem_cons,List.not_mem_nil,or_false] at h3
      right
      rcases h3 with rfl|rfl|rfl <;> exact ⟨h1.symm,h2.symm⟩
    ·exact .inl (.inr (.inr hc))
   have he1:=h.e1
   have hn0:=h.n0
   refine ⟨h.e1,by show 0≤a.nm+1;omega,fun k c hk hac=>?_,fun k c d hk hac had hee hnn=>?_⟩
   ·rcases hc k c hk hac with h1|⟨_,rfl⟩
    ·have:=h.ce k c hk h1
     exact ⟨this.1,this.2.1,this.2.2.1,fun e=>by have:=this.2.2.2 e;show c.n≤a.nm+1;omega⟩
    ·exact ⟨by show 0≤a.e;omega,Int.le_refl _,by show 0≤a.nm+1;omega,fun _=>Int.le_refl _⟩
   ·rcases hc k c hk hac with h1|⟨_,rfl⟩
    ·rcases hc k d hk had with h2|⟨_,rfl⟩
     ·exact h.un k c d hk h1 h2 hee hnn
     ·have:=(h.ce k c hk h1).2.2.2 hee
      have h9:c.n=a.nm+1:=hnn
      omega
    ·rcases hc k d hk had with h2|⟨_,rfl⟩
     ·have:=(h.ce k d hk h2).2.2.2 hee.symm
      have h9:a.nm+1=d.n:=hnn
      omega
     ·rfl
 | ready=>show CI X { a with rs:=G.d9 a.rs a.up a.e };rw [hG.fix];exact h
 | fence h2 =>
   have hc:∀ k c,k<8→AC X { a with e:=a.e+1,rs:=G.d9 a.rs a.up (a.e+1),nm:=0 } k c→AC X a k c:=by
    intro k c hk hc
    rcases hc with hc|hc|hc
    ·exact .inl (G.CS_fen hG.ok hc)
    ·exact .inr (.inl hc)
    ·exact .inr (.inr hc)
   have he1:=h.e1
   refine ⟨by show 1≤a.e+1;omega,Int.le_refl 0,fun k c hk hac=>?_,fun k c d hk hac had=>h.un k c d hk (hc k c hk hac) (hc k d hk had)⟩
   have:=h.ce k c hk (hc k c hk hac)
   exact ⟨this.1,by show c.e≤a.e+1;omega,this.2.2.1,fun e=>by have e':c.e=a.e+1:=e;omega⟩
 | none=>exact h.of rfl rfl fun _ _ _ hc=>AC.fly (a:=a) (b:={ a with fly:=[] }) rfl (fun m hm=>by cases hm) hc
theorem CI.steps {S:Nat→Prop} {X:Nat→G.Cel→Prop} {a b:GS} (s:Steps S a b) (h:CI X a) (hG:GI a):CI X b :=
 (s.keeps (P:=fun g=>CI X g∧GI g) (fun _ _ h s=>⟨h.1.step h.2 s,h.2.step s⟩) ⟨h,hG⟩).1
theorem CI.zc {X:Nat→G.Cel→Prop} {g:GS} (h:CI X g) {k:Nat} (hk:k<8) {c:G.Cel} (hc:AC X g k c):c=G.zc∨G.di c G.zc=true:=by
 have h1:=h.ce k c hk hc
 by_cases he:c.e=0
 ·by_cases hn:c.n=0
  ·exact .inl (h.un k c G.zc hk hc (.inl (.inl rfl)) he hn)
  ·right
   unfold G.di
   rw [if_neg (by rw [he];decide)]
   show decide ((0:Int)<c.n)=true
   exact decide_eq_true (by omega)
 ·right
  unfold G.di
  rw [if_pos (by show (c.e != 0)=true;simpa using he)]
  show decide ((0:Int)<c.e)=true
  exact decide_eq_true (by omega)
theorem openCI (D:DM):CI (fun _ _=>False) (dh D).gs:=by
 have hz:∀ k c,k<8→AC (fun _ _=>False) (dh D).gs k c→c=G.zc:=by
  intro k c hk hc
  rcases hc with hc|⟨m,hm,_⟩|hc
  ·have h0:G.GOK (G.newR 3) (G.newU 3):=G.yh 3
   have h2:G.CS (G.d9 (G.d9 (G.newR 3) (G.newU 3) 1) (G.newU 3) 2) k c:=hc
   have h1:G.CS (G.newR 3) k c:=G.CS_fen h0 (G.CS_fen (G.fenG_ok h0 1) h2)
   clear h2 hc
   rcases h1 with h1|⟨i,hi,h1⟩
   ·exact h1
   ·rw [h1]
    have:G.ah (G.newR 3) i=⟨1,G.mr⟩:=by
     match i,hi with
     | 0,_=>rfl
     | 1,_=>rfl
     | 2,_=>rfl
    rw [this]
    show (List.replicate 8 G.zc).getD k G.zc=G.zc
    simp only [List.getD_eq_getElem?_getD,List.getElem?_replicate,hk,if_true,Option.getD_some]
  ·cases hm
  ·cases hc
 refine ⟨by show (1:Int)≤2;decide,Int.le_refl 0,fun k c hk hc=>?_,fun k c d hk hc hd _ _=>by rw [hz k c hk hc,hz k d hk hd]⟩
 rw [hz k c hk hc]
 exact ⟨Int.le_refl 0,by show (0:Int)≤2;decide,Int.le_refl 0,fun e=>by exact absurd e (show ¬(0:Int)=2 by decide)⟩
def RJ2 (g:GS) (k:Nat) (c:G.Cel):Prop:=∀ i j:Nat,i<j→j<3→(G.ah g.rs i).f=g.e→(G.ah g.rs j).f=g.e→G.di c (G.ck k (G.ah g.rs i))=false∨G.di c (G.ck k (G.ah g.rs j))=false
theorem RJ2.best {g:GS} {k:Nat} {c:G.Cel} (h:RJ2 g k c) (up:List Bool) (h2:2≤(G.cz g.rs up g.e 3).length):G.di c (G.bestM g.rs up g.e k)=false:=by
 obtain ⟨i,j,hij,hj,hti,htj⟩:=G.two_of g.rs up g.e h2
 rcases h i j hij hj (G.abf hti) (G.abf htj) with h1|h1
 ·exact G.aat h1 (G.bestM_ge k (by omega) hti)
 ·exact G.aat h1 (G.bestM_ge k hj htj)
theorem del_ge {rs:List G.Rep} {up:List Bool} (h:G.GOK rs up) (m k:Nat) (hm:m<3) (c:G.Cel) (i:Nat) (hk:k<8) (hi:i<3) (j:Nat):G.di (G.ck j (G.ah rs i)) (G.ck j (G.ah (G.ny rs up m k c) i))=false:=by
 have hml:m<rs.length:=by rw [h.len];exact hm
 have hg:=G.delG_get h m k hm c i hk hi
 by_cases hj:j=k
 ·subst hj
  unfold G.ny
  split
  ·rw [show ((m:Int)).toNat=m from rfl,G.abr hml]
   by_cases h2:m=i
   ·subst h2
    rw [if_pos rfl]
    have hl:j<(G.ah rs m).l.length:=by rw [(G.aaa h m hm).len];exact hk
    unfold G.ck
    show G.di _ ((G.ib (G.ah rs m).f (G.ah rs m).l j c).getD j G.zc)=false
    rw [G.admL_is hl,G.aaw hl]
    have hv:(G.ah rs m).l.getD j G.zc=(G.ah rs m).l[j]:=by simp [hl]
    rw [hv]
    exact G.adm1_old _ _ _
   ·rw [if_neg h2];exact G.xw _
  ·exact G.xw _
 ·rw [hg.2.2 j hj];exact G.xw _
theorem RJ2.mono {a b:GS} {k:Nat} {c:G.Cel} (h:RJ2 a k c) (hg:∀ i:Nat,i<3→(G.ah b.rs i).f=b.e→G.di c (G.ck k (G.ah b.rs i))=false∨((G.ah a.rs i).f=a.e∧G.di (G.ck k (G.ah a.rs i)) (G.ck k (G.ah b.rs i))=false)):RJ2 b k c:=by
 intro i j hij hj hi1 hj1
 rcases hg i (by omega) hi1 with h1|⟨h1,h2⟩
 ·exact .inl h1
 ·rcases hg j hj hj1 with h3|⟨h3,h4⟩
  ·exact .inr h3
  ·rcases h i j hij hj h1 h3 with h5|h5
   ·exact .inl (G.aat h5 h2)
   ·exact .inr (G.aat h5 h4)
theorem RJ2.step {S:Nat→Prop} {a b:GS} {k:Nat} {c:G.Cel} (h:RJ2 a k c) (hk:k<8) (hG:GI a) (s:Step S a b):RJ2 b k c:=by
 cases s with
 | up i b=>exact h
 | lose i=>exact h
 | del m hm =>
   have hm':=hG.ms m hm
   obtain ⟨d,hd,hd3⟩:=dst_nat hm'
   refine h.mono fun i hi hf=>.inr ?_
   have hf':(G.ah (G.ny a.rs a.up m.dst m.k m.c) i).f=a.e:=hf
   show _∧G.di _ (G.ck k (G.ah (G.ny a.rs a.up m.dst m.k m.c) i))=false
   rw [hd] at hf' ⊢
   exact ⟨(G.delG_get hG.ok d m.k hd3 m.c i hm'.2.2 hi).1▸hf',del_ge hG.ok d m.k hd3 m.c i hm'.2.2 hi k⟩
 | sync n hn =>
   refine h.mono fun i hi hf=>?_
   have hf':(G.ah (G.kz a.rs a.up a.e n) i).f=a.e:=hf
   show G.di c (G.ck k (G.ah (G.kz a.rs a.up a.e n) i))=false∨_∧G.di _ (G.ck k (G.ah (G.kz a.rs a.up a.e n) i))=false
   rw [G.adi hG.ok a.e n hn i hi] at hf' ⊢
   split at hf'
   ·rename_i hs
    rw [if_pos hs,G.ck_sync hk]
    exact .inl (h.best a.up (G.sync_most hs.1))
   ·rename_i hs
    rw [if_neg hs]
    exact .inr ⟨hf',G.xw _⟩
 | read n hn =>
   refine h.mono fun i hi hf=>?_
   have hf':(G.ah (G.kg a.rs a.up a.e n) i).f=a.e:=hf
   show G.di c (G.ck k (G.ah (G.kg a.rs a.up a.e n) i))=false∨_∧G.di _ (G.ck k (G.ah (G.kg a.rs a.up a.e n) i))=false
   rw [abm hG.ok a.e n i hi] at hf' ⊢
   split at hf'
   ·rename_i hs
    rw [if_pos hs]
    by_cases hkn:k=n
    ·subst hkn
     have:G.ck k (G.Rep.mk (G.ah a.rs i).f ((G.ah a.rs i).l.set k (G.ru a.rs a.up a.e k)))=G.ru a.rs a.up a.e k:=G.aaw (by rw [(G.aaa hG.ok i hi).len];exact hk)
     rw [this,G.readC_is a.rs a.up a.e k hk hs.1]
     exact .inl (h.best a.up (of_decide_eq_true hs.1))
    ·have:G.ck k (G.Rep.mk (G.ah a.rs i).f ((G.ah a.rs i).l.set n (G.ru a.rs a.up a.e n)))=G.ck k (G.ah a.rs i):=G.getD_set_ne hkn
     rw [this]
     exact .inr ⟨hf',G.xw _⟩
   ·rename_i hs
    rw [if_neg hs]
    exact .inr ⟨hf',G.xw _⟩
 | send n hn _ da tag=>exact h
 | ready=>show RJ2 { a with rs:=G.d9 a.rs a.up a.e } k c;rw [hG.fix];exact h
 | fence h2 =>
   refine h.mono fun i hi hf=>.inr ?_
   have hf':(G.ah (G.d9 a.rs a.up (a.e+1)) i).f=a.e+1:=hf
   show _∧G.di _ (G.ck k (G.ah (G.d9 a.rs a.up (a.e+1)) i))=false
   rw [G.abq hG.ok (a.e+1) i hi] at hf' ⊢
   split at hf'
   ·rename_i ht
    rw [if_pos ht]
    exact ⟨by have:=G.abf ht.2;omega,G.xw _⟩
   ·have:=hG.fl i hi;omega
 | none=>exact h
theorem RJ2.steps {S:Nat→Prop} {a b:GS} {k:Nat} {c:G.Cel} (s:Steps S a b) (h:RJ2 a k c) (hk:k<8) (hG:GI a):RJ2 b k c :=
 (s.keeps (P:=fun g=>RJ2 g k c∧GI g) (fun _ _ h s=>⟨h.1.step hk h.2 s,h.2.step s⟩) ⟨h,hG⟩).1
theorem RJ2.read {g:GS} (hG:GI g) {k:Nat} (hk:k<8) (hr:G.readB g.rs g.up g.e=true):RJ2 { g with rs:=G.kg g.rs g.up g.e k } k (G.ru g.rs g.up g.e k):=by
 have h2:2≤(G.cz g.rs g.up g.e 3).length:=of_decide_eq_true hr
 intro i j hij hj _ _
 show G.di _ (G.ck k (G.ah (G.kg g.rs g.up g.e k) i))=false∨G.di _ (G.ck k (G.ah (G.kg g.rs g.up g.e k) j))=false
 have hck:∀ i:Nat,i<3→G.takes g.rs g.up g.e i=true→G.ck k (G.ah (G.kg g.rs g.up g.e k) i)=G.ru g.rs g.up g.e k:=by
  intro i hi ht
  rw [abm hG.ok g.e k i hi,if_pos ⟨hr,ht⟩]
  exact G.aaw (by rw [(G.aaa hG.ok i hi).len];exact hk)
 obtain ⟨x,y,hxy,hy,htx,hty⟩:=G.two_of g.rs g.up g.e h2
 have:G.takes g.rs g.up g.e i=true∨G.takes g.rs g.up g.e j=true:=by
  have hcase:i=x∨i=y∨j=x∨j=y:=by omega
  rcases hcase with rfl|rfl|rfl|rfl
  ·exact .inl htx
  ·exact .inl hty
  ·exact .inr htx
  ·exact .inr hty
 rcases this with ht|ht
 ·left;rw [hck i (by omega) ht];exact G.xw _
 ·right;rw [hck j hj ht];exact G.xw _
theorem do_what (g t h:Int) (y:Bool) (l:List (Int × Int)) (op who key new kind:Int) (st:Bool):∀ q ∈ (Go.Proofs.YtpkhdihoijkamaaGreatDoor.doF g t h y l op who key new kind st).tl,1≤q.2∧q.2≤4:=by
 have hT:∀ (xs:List Int) (what:Int),1≤what→what≤4→∀ q ∈ Go.Proofs.YtpkhdihoijkamaaGreatDoor.ay xs what,1≤q.2∧q.2≤4:=fun xs what h1 h4 q hq=>by
  rw [(Go.Proofs.YtpkhdihoijkamaaGreatDoor.aan.1 hq).2];exact ⟨h1,h4⟩
 have hA:∀ (a b:List (Int × Int)),(∀ q ∈ a,1≤q.2∧q.2≤4)→(∀ q ∈ b,1≤q.2∧q.2≤4)→∀ q ∈ a ++ b,1≤q.2∧q.2≤4:=fun a b h1 h2 q hq=>(List.mem_append.1 hq).elim (h1 q) (h2 q)
 have h0:∀ q ∈ ([]:List (Int × Int)),1≤q.2∧q.2≤4:=fun q hq=>by cases hq
 unfold Go.Proofs.YtpkhdihoijkamaaGreatDoor.doF Go.Proofs.YtpkhdihoijkamaaGreatDoor.sw Go.Proofs.YtpkhdihoijkamaaGreatDoor.vk Go.Proofs.YtpkhdihoijkamaaGreatDoor.uy Go.Proofs.YtpkhdihoijkamaaGreatDoor.ze Go.Proofs.YtpkhdihoijkamaaGreatDoor.og Go.Proofs.YtpkhdihoijkamaaGreatDoor.refused
 repeat' split
 all_goals first|exact h0|exact hT _ _ (by decide) (by decide)|exact hA _ _ (hT _ _ (by decide) (by decide)) (hT _ _ (by decide) (by decide))
def BI (M:TM):Prop:=∀ j,j<4→∀ x ∈ M.L j,1≤x∧x≤4
theorem BI.with {M M':TM} (h:BI M) (e:M'.L=M.L):BI M':=fun j hj x hx=>h j hj x (by rw [←e];exact hx)
theorem addL_mem {l:List Int} {x y:Int} (h:y ∈ ni l x):y ∈ l∨y=x:=by
 unfold ni at h
 split at h
 ·exact .inl h
 ·rcases List.mem_append.1 h with h|h
  ·exact .inl (List.mem_of_mem_drop h)
  ·exact .inr (by simpa using h)
theorem tell1_BI {L:Nat→List Int} (h:∀ j,j<4→∀ x ∈ L j,1≤x∧x≤4) {q:Int × Int} (hq:1≤q.2∧q.2≤4):∀ j,j<4→∀ x ∈ vz L q j,1≤x∧x≤4:=by
 intro j hj x hx
 unfold vz at hx
 split at hx
 ·unfold upd at hx
  split at hx
  ·rename_i e
   rcases addL_mem hx with h1|rfl
   ·exact h _ (by omega) x h1
   ·exact hq
  ·exact h j hj x hx
 ·exact h j hj x hx
theorem tellL_BI:∀ (tl:List (Int × Int)) {L:Nat→List Int},(∀ j,j<4→∀ x ∈ L j,1≤x∧x≤4)→(∀ q ∈ tl,1≤q.2∧q.2≤4)→∀ j,j<4→∀ x ∈ ay L tl j,1≤x∧x≤4
 | [],_,h,_=>h
 | q :: tl,_,h,hq=>tellL_BI tl (tell1_BI h (hq q List.mem_cons_self)) fun q' h'=>hq q' (List.mem_cons_of_mem _ h')
theorem BI.change {M:TM} (h:BI M) (c:CmD):BI (lu M c).2:=by
 have h1:BI (ol M (c.o M.s)).2:=h.with (change1_L M _)
 unfold lu
 split
 ·split
  ·exact tellL_BI _ h1 (do_what _ _ _ _ _ _ _ _ _ _ _)
  ·exact h1
 ·exact h
theorem allowM_L (M:TM) (c:CmD):(ic M c).L=M.L:=by
 unfold ic;split
 ·exact (abn M).2.2.2.2
 ·rfl
theorem BI.took {M:TM} (h:BI M) (c:CmD):BI (iw M c):=by
 intro j hj x hx
 have hx':x ∈ upd M.L c.j (M.L c.j).tail j:=hx
 unfold upd at hx'
 split at hx'
 ·rename_i e;rw [←e] at hx';exact h j hj x (List.mem_of_mem_tail hx')
 ·exact h j hj x hx'
theorem ask2_L (M:TM) (c:CmD) (hc:c.op=7∨c.op=8∨c.op=9):(kr M c).2.L=M.L:=by
 have ha:=allowM_L M c
 unfold kr
 split
 ·unfold j4;repeat' split
  all_goals exact ha
 ·split
  ·unfold qb qp;repeat' split
   all_goals exact ha
  ·split
   ·unfold jg zt;repeat' split
    all_goals exact ha
   ·omega
theorem BI.ask2M {M:TM} (h:BI M) (c:CmD):BI (kr M c).2:=by
 by_cases hc:c.op=7∨c.op=8∨c.op=9
 ·exact h.with (ask2_L M c hc)
 ·unfold kr
  rw [if_neg (by omega),if_neg (by omega),if_neg (by omega)]
  exact h.change c
theorem BI.ask {M:TM} (h:BI M) (c:CmD):BI (av M c).2:=by
 unfold av
 split
 ·split
  ·exact (h.took c).ask2M c
  ·exact h.took c
 ·exact h
theorem deliverM_L (M:TM) (i:Int) (st:Bool):(l7 M i st).2.2.L=M.L:=by
 unfold l7 qw q8 ww;repeat' split
 all_goals rfl
theorem BI.play {M:TM} (h:BI M) (x:ig):BI (gy M x).2:=by
 unfold gy
 repeat' split
 ·exact h.ask _
 ·exact h.with (deliverM_L _ _ _)
 ·unfold ug ww;split <;> exact h.with rfl
 ·unfold upM;split <;> exact h.with rfl
 ·unfold upM;split <;> exact h.with rfl
 ·unfold qg;repeat' split
  all_goals exact h.with rfl
 ·unfold iq
  split
  ·intro j hj y hy
   have:y ∈ Go.Proofs.YtpkhdihoijkamaaGreatDoor.xm j:=hy
   simp [Go.Proofs.YtpkhdihoijkamaaGreatDoor.xm] at this
   omega
  ·exact h.with (beginM_L M _)
 ·exact fun j hj y hy=>by
   have h1:(dm M.e M.s M.D M.rs M.up).2.L=noL:=beginM_L _ _
   rw [h1] at hy
   simp [noL] at hy
 ·exact h
theorem openBI (D:DM):BI (dh D):=fun j hj x hx=>by simp [dh,noL] at hx
theorem head_0 {l:List Int} (h:∀ x ∈ l,1≤x∧x≤4):jf l=0↔l=[]:=by
 cases l with
 | nil=>exact ⟨fun _=>rfl,fun _=>rfl⟩
 | cons a l =>
   constructor
   ·intro e
    have:=h a List.mem_cons_self
    have e':a=0:=e
    omega
   ·intro e;cases e
def mute (M:TM) (c:CmD):TM:={ M with L:=upd M.L c.j [] }
def au (M:TM) (c:CmD):Ans × TM:=if c.f=0 then kr (mute M c) c else (⟨ll,0,0,c.f⟩,M)
def askN:Nat→TM→CmD→(ByteArray × Int × Int) × TM
 | 0,M,_=>((ll,0,7),M)
 | n+1,M,c=>if (av M c).1.what=0 then (((av M c).1.data,(av M c).1.tag,(av M c).1.f),(av M c).2) else askN n (av M c).2 c
theorem ask2_what (M:TM) (c:CmD):(kr M c).1.what=0:=by
 unfold kr;repeat' split
 all_goals rfl
theorem cmd_j {c:CmD} (hc:c.f=0):c.j<4:=by
 have:=(Go.Proofs.YtpkhdihoijkamaaGreatDoor.cmd_ok hc)
 have h1:=this.who1
 have h4:=this.who4
 unfold CmD.j;omega
theorem askN_is:∀ (n:Nat) (M:TM) (c:CmD),c.f=0→BI M→(M.L c.j).length<n→askN n M c=(((kr (mute M c) c).1.data,(kr (mute M c) c).1.tag,(kr (mute M c) c).1.f),(kr (mute M c) c).2)
 | 0,_,_,_,_,hl=>by omega
 | n+1,M,c,hc,hB,hl=>by
   have hh:=head_0 (hB c.j (cmd_j hc))
   unfold askN av
   rw [if_pos hc]
   by_cases h0:jf (M.L c.j)=0
   ·rw [if_pos h0,if_pos (ask2_what _ _)]
    have hm:iw M c=mute M c:=by unfold iw mute;rw [hh.1 h0];rfl
    rw [hm]
   ·rw [if_neg h0,if_neg h0]
    have hn:(M.L c.j)≠[]:=fun e=>h0 (hh.2 e)
    have ht:(iw M c).L c.j=(M.L c.j).tail:=by show upd M.L c.j _ c.j=_;unfold upd;rw [if_pos rfl]
    have hlen:((iw M c).L c.j).length<n:=by
     rw [ht,List.length_tail]
     have:=List.length_pos_iff.2 hn
     omega
    have:=askN_is n (iw M c) c hc (hB.took c) hlen
    rw [this]
    have hm:mute (iw M c) c=mute M c:=by
     have:upd (upd M.L c.j (M.L c.j).tail) c.j []=upd M.L c.j []:=by
      funext k
      by_cases hk:k=c.j <;> simp [upd,hk]
     unfold mute iw
     simp only
     rw [this]
    rw [hm]
theorem askN_bad (n:Nat) (M:TM) (c:CmD) (hc:c.f≠0):askN (n+1) M c=((ll,0,c.f),M):=by
 unfold askN av
 rw [if_neg hc,if_pos rfl]
theorem ask6 {M:TM} {N:Nat} (hI:TI M N) (hB:BI M) (c:CmD):askN 6 M c=(((au M c).1.data,(au M c).1.tag,(au M c).1.f),(au M c).2):=by
 unfold au
 by_cases hc:c.f=0
 ·rw [if_pos hc]
  exact askN_is 6 M c hc hB (by have:=hI.bl c.j (cmd_j hc);omega)
 ·rw [if_neg hc]
  exact askN_bad 5 M c hc
theorem aa2 (f:Int) (w:World):Calls Tryz.prog 29 #[ai f] w fun e w'=>e=.returned (.int .i64 f)∧w'=w:=by
 by_cases h0:f=0
 ·subst h0
  rw [show ai 0=.nilIface from rfl]
  go_enter Tryz.func29,Tryz.ntmps29
  go_wp2
  go_ret
  exact ⟨rfl,rfl⟩
 ·rw [show ai f=.iface 96 (.int .i64 f) from ut h0]
  have hta:=Go.Proofs.YtpkhdihoijkamaaGreatDoor.assert_errno
  go_enter Tryz.func29,Tryz.ntmps29
  go_wp2
  go_ret
  exact ⟨rfl,rfl⟩
theorem ret_t3 {P:Program} {fn:Func} {q r t:Tmp} {tmps:Array Value} {w:World} (h:fn.results=#[.tmp q,.tmp r,.tmp t]):(results fn tmps).run P w=.ok (.tuple #[tmps.getD q undef,tmps.getD r undef,tmps.getD t undef]) w:=by
 simp [results,h]
structure InA (w0 wa wr:World) (t b3:Nat) (M0:TM) (p0:TP) (c:CmD) (N k:Nat) (M:TM) (p:TP):Prop where
 tg:aa w0 wr t M p
 pk:p.k=p0.k
 pb:p.b=p0.b
 mv:ae p0.F p.F wa wr
 ti:TI M (N+k)
 cm:At wr b3 c.vs 24
 off:¬p.F b3
 is:askN (6 - k) M c=askN 6 M0 c
set_option maxRecDepth 100000 in
set_option maxHeartbeats 16000000 in
theorem askT_any {w0 wa:World} {t:Nat} {M:TM} {p:TP} (h:aa w0 wa t M p) (hL:K.Laid w0) {N:Nat} (hI:TI M N) (hN:N+6<1000000) (hB:BI M) (c:CmD) (hop:(Lit.int .i64 c.op).wf=true) (hd:c.da.size≤9223372036854775807) (hw:c.wa.size≤9223372036854775807) :
 Calls Tryz.prog 20 #[.pointer (some ⟨t,0,.none⟩),.agg c.vs.toArray] wa fun r w'=>r=.returned (.tuple #[.string (au M c).1.data,.int .i64 (au M c).1.tag,ai (au M c).1.f]) ∧
  ∃ p',aa w0 w' t (au M c).2 p'∧p'.k=p.k∧p'.b=p.b∧ae p.F p'.F wa w':=by
 obtain ⟨X,hX,a0,bX,sX⟩:=Go.Proofs.YtpkhdihoijkamaaGreatDoor.D.one wa (.cells c.vs.toArray 24)
 have A3:At X wa.heap.size c.vs 24:=a0
 have hq:InA w0 wa X t wa.heap.size M p c N 0 M p:=⟨h.later bX,rfl,rfl,ae.of bX (Nat.le_refl _),hI,A3,fun f=>by have:=h.foot _ f;omega,rfl⟩
 have HC:Hid ((Lit.int .i64 c.op).wf=true∧c.da.size≤9223372036854775807∧c.wa.size≤9223372036854775807∧K.Laid w0∧N+6<1000000):=⟨hop,hd,hw,hL,hN⟩
 have H6:Hid (askN 6 M c=(((au M c).1.data,(au M c).1.tag,(au M c).1.f),(au M c).2)):=ask6 hI hB c
 clear a0 bX sX h hL hI hN hop hd hw hB A3
 go_enter Tryz.func20,Tryz.ntmps20
 go_wp2_with fail
 rw [←hX]
 clear hX
 obtain ⟨b3,hb3⟩:∃ b3,wa.heap.size=b3:=⟨_,rfl⟩
 rw [hb3] at hq ⊢
 have HQ0:Hid (InA w0 wa X t b3 M p c N 0 M p):=hq
 clear hb3 hq
 go_loopw [7] (fun i wr=>∃ (k:Nat) (Mk:TM) (pk:TP),k≤6∧i=.int .i64 k∧InA w0 wa wr t b3 M p c N k Mk pk) (fun i _=>6 - (intOf i).toNat)
 case atStart=>exact ⟨0,M,p,by decide,rfl,HQ0.out⟩
 case round =>
  clear HQ0
  obtain ⟨k,Mk,pk,hk,rfl,hq⟩:=hrel
  have HQ:Hid (InA w0 wa wr t b3 M p c N k Mk pk):=hq
  clear hq
  by_cases hlt:k<6
  ·have hki:(k:Int)≤5:=by omega
   have HK:Hid (k<6):=hlt
   have HLC:Hid ((Instr.loadAt 24 (.pointer (some ⟨b3,0,.none⟩))).run Tryz.prog wr=.ok (.agg c.vs.toArray) wr):=vv HQ.out.cm
   have HAS:Hid (Calls Tryz.prog 36 #[.pointer (some ⟨t,0,.none⟩),.agg c.vs.toArray] wr fun r w'=>r=.returned (.tuple #[.string (av Mk c).1.data,.int .i64 (av Mk c).1.tag,.int .i64 (av Mk c).1.what,ai (av Mk c).1.f]) ∧
    ∃ p',aa w0 w' t (av Mk c).2 p'∧p'.k=pk.k∧p'.b=pk.b∧ae pk.F p'.F wr w'):=zu HQ.out.tg HC.out.2.2.2.1 HQ.out.ti (by have:=HC.out.2.2.2.2;omega) c HC.out.1 HC.out.2.1 HC.out.2.2.1
   clear hk hlt
   go_wp2_with (with_reducible refine ak HLC.out rfl rfl ?_)
   refine HAS.out.mono ?_
   rintro r W ⟨rfl,p',hT,h1,h2,hm⟩
   have hstep:askN (6 - k) Mk c=if (av Mk c).1.what=0 then (((av Mk c).1.data,(av Mk c).1.tag,(av Mk c).1.f),(av Mk c).2) else askN (6 - (k+1)) (av Mk c).2 c:=by
    have:6 - k=(6 - (k+1))+1:=by have:=HK.out;omega
    rw [this];rfl
   rw [HQ.out.is] at hstep
   have HST:Hid (askN 6 M c=if (av Mk c).1.what=0 then (((av Mk c).1.data,(av Mk c).1.tag,(av Mk c).1.f),(av Mk c).2) else askN (6 - (k+1)) (av Mk c).2 c):=hstep
   have HR:Hid (aa w0 W t (av Mk c).2 p'∧p'.k=p.k∧p'.b=p.b∧ae p.F p'.F wa W∧TI (av Mk c).2 (N+(k+1))∧At W b3 c.vs 24∧¬p'.F b3) :=
    ⟨hT,h1.trans HQ.out.pk,h2.trans HQ.out.pb,HQ.out.mv.trans hm,HQ.out.ti.ask (HQ.out.tg.mp.tidy x9) c,hm.at HQ.out.cm HQ.out.off,hm.not HQ.out.cm.lt HQ.out.off⟩
   clear hT h1 h2 hm hstep HAS HLC
   obtain ⟨A,hA⟩:∃ A,(av Mk c).1=A:=⟨_,rfl⟩
   obtain ⟨M2,hM2⟩:∃ M2,(av Mk c).2=M2:=⟨_,rfl⟩
   rw [hA,hM2] at HST
   rw [hM2] at HR
   rw [hA]
   clear hA hM2 HQ
   by_cases h0:A.what=0
   ·have HX:=HST.out
    rw [if_pos h0,H6.out] at HX
    have HXX:Hid ((au M c).1.data=A.data∧(au M c).1.tag=A.tag∧(au M c).1.f=A.f∧(au M c).2=M2):=by
     simp only [Prod.mk.injEq] at HX
     exact ⟨HX.1.1,HX.1.2.1,HX.1.2.2,HX.2⟩
    rw [h0]
    clear HX h0 HST
    go_wp2_with fail
    refine bodyPost_ret (ret_t3 Tryz.results20) rfl ⟨?_,p',by rw [HXX.out.2.2.2];exact HR.out.1,HR.out.2.1,HR.out.2.2.1,HR.out.2.2.2.1⟩
    rw [HXX.out.1,HXX.out.2.1,HXX.out.2.2.1];rfl
   ·have HS:Hid (askN (6 - (k+1)) M2 c=askN 6 M c):=by have:=HST.out;rw [if_neg h0] at this;exact this.symm
    clear HST
    go_wp2_with fail
    exact ⟨⟨k+1,M2,p',HK.out,by go_num,HR.out.1,HR.out.2.1,HR.out.2.2.1,HR.out.2.2.2.1,HR.out.2.2.2.2.1,HR.out.2.2.2.2.2.1,HR.out.2.2.2.2.2.2,HS.out⟩,by simp [intOf];have:=HK.out;omega⟩
  ·obtain rfl:k=6:=by omega
   have HXX:Hid ((au M c).1.data=ll∧(au M c).1.tag=0∧(au M c).1.f=7∧(au M c).2=Mk):=by
    have h1:=HQ.out.is
    rw [H6.out] at h1
    simp only [Nat.sub_self,askN,Prod.mk.injEq] at h1
    exact ⟨h1.1.1.symm,h1.1.2.1.symm,h1.1.2.2.symm,h1.2.symm⟩
   clear hk hlt
   go_wp2_with fail
   refine bodyPost_ret (ret_t3 Tryz.results20) rfl ⟨?_,pk,by rw [HXX.out.2.2.2];exact HQ.out.tg,HQ.out.pk,HQ.out.pb,HQ.out.mv⟩
   rw [HXX.out.1,HXX.out.2.1,HXX.out.2.2.1];rfl
structure All (M:TM):Prop where
 si:SI M
 gi:GI M.gs
 bi:BI M
 ci:CI (fun _ _=>False) M.gs
theorem All.play {M:TM} (h:All M) (x:ig):All (gy M x).2 :=
 ⟨h.si.play h.gi.ok x,h.gi.steps (gs_play h.si h.gi.ok x),h.bi.play x,h.ci.steps (gs_play h.si h.gi.ok x) h.gi⟩
theorem All.gp:∀ (l:List ig) {M:TM},All M→All (gp M l)
 | [],_,h=>h
 | x :: l,_,h=>All.gp l (h.play x)
theorem openAll {D:DM} (h:SI (dh D)):All (dh D):=⟨h,openGI D,openBI D,openCI D⟩
theorem ac4 {M:TM} (h:GI M.gs):G.d9 M.rs M.up M.e=M.rs:=h.fix
theorem readyM_self {M:TM} (h:GI M.gs):dx M=M:=by
 unfold dx
 rw [ac4 h]
 split <;> rfl
theorem allowM_self {M:TM} (h:GI M.gs) (c:CmD):ic M c=M:=by
 unfold ic
 rw [readyM_self h]
 split <;> rfl
theorem ask2_s (M:TM) (c:CmD) (hc:c.op=7∨c.op=8∨c.op=9):(kr M c).2.s=M.s∧(kr M c).2.e=M.e:=by
 unfold kr
 split
 ·exact ⟨(readM_is M c).2,(readM_is M c).1⟩
 ·split
  ·exact ⟨(acy M c).2,(acy M c).1⟩
  ·split
   ·exact ⟨(ac1 M c).2,(ac1 M c).1⟩
   ·omega
structure Plain (w0 wr:World) (t:Nat) (M:TM) (p:TP) (n:Nat):Prop where
 tg:aa w0 wr t M p
 ti:TI M n
 al:All M
theorem After.plain {w w':World} {l:List ig} {t:Nat} {p:TP} {D:DM} (h:After w w' l t p D):Plain w w' t (gp (dh D) l) p l.length:=⟨h.tg,h.ti,(openAll h.s0).gp l⟩
structure InF (w0 wr:World) (t b3 b8:Nat) (M:TM) (p:TP) (n:Nat) (cm:CmD) (s:KS) (a1:Option Addr) (c1:Nat) (fv:Value) (fly:List ed):Prop where
 pl:Plain w0 wr t M p n
 A3:At wr b3 cm.vs 24
 A8:At wr b8 (s.vs a1 c1) 36
 R8:iy wr p a1 s
 FV:ek 116 6 wr fv fly.length (gu fly)
 o3:¬p.F b3
 o8:¬p.F b8
 oF:∀ q,ObX fv q→¬p.F q
theorem InF.later {w0 wr wx:World} {t b3 b8:Nat} {M:TM} {p:TP} {n:Nat} {cm:CmD} {s:KS} {a1:Option Addr} {c1:Nat} {fv:Value} {fly:List ed} (h:InF w0 wr t b3 b8 M p n cm s a1 c1 fv fly) (hb:Below wr.heap.size wr wx):InF w0 wx t b3 b8 M p n cm s a1 c1 fv fly :=
 ⟨⟨h.pl.tg.later hb,h.pl.ti,h.pl.al⟩,h.A3.later hb h.A3.lt,h.A8.later hb h.A8.lt,h.R8.later hb,h.FV.later hb (Nat.le_refl _),h.o3,h.o8,h.oF⟩
end Go.Proofs.YtpkhdihoijkamaaGreatDoor.U
