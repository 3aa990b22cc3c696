/- Several texts of this seat in one: UHeardM, UHeard. No statement of the seat is proved here. -/
import Derived.Test.YtpkhdihoijkamaaGreatDoorZA43
import Derived.Test.YtpkhdihoijkamaaGreatDoorZA30
import Derived.Test.YtpkhdihoijkamaaGreatDoorZA12
namespace Go.Proofs.YtpkhdihoijkamaaGreatDoor.U
open Go.ChangeShapes Go.WideShapes Go.ChangeAt Go.RowKit Go.Deep Go.Maps
open Go.Proofs.YtpkhdihoijkamaaGreatDoor.D
def rdW (who:Int):CmD:=⟨7,who,0,0,0,0,false,⟨#[]⟩,⟨#[]⟩⟩
theorem rdW_f {who:Int} (h1:1≤who) (h4:who≤4):(rdW who).f=0:=by
 rcases (by omega:who=1∨who=2∨who=3∨who=4) with rfl|rfl|rfl|rfl <;> (show _=_;kernel_rfl)
theorem tell1_other {L:Nat→List Int} {q:Int × Int} {who:Int} (h1:1≤who) (hne:q.1≠who):vz L q (who.toNat - 1)=L (who.toNat - 1):=by
 unfold vz
 split
 ·unfold upd
  rw [if_neg (by omega)]
 ·rfl
theorem tellL_keep {who:Int} (h1:1≤who):∀ (tl:List (Int × Int)) (L:Nat→List Int),(∀ q ∈ tl,q.1≠who)→ay L tl (who.toNat - 1)=L (who.toNat - 1)
 | [],_,_=>rfl
 | q :: tl,L,h=>by
   show ay (vz L q) tl (who.toNat - 1)=_
   rw [tellL_keep h1 tl (vz L q) (fun q' h'=>h q' (List.mem_cons_of_mem _ h')),tell1_other h1 (h q List.mem_cons_self)]
theorem tellL_told {who v:Int} (h1:1≤who) (h4:who≤4):∀ (tl:List (Int × Int)) (L:Nat→List Int),tl.Pairwise (fun a b=>a.1≠b.1)→(who,v) ∈ tl→L (who.toNat - 1)=[]→ay L tl (who.toNat - 1)=[v]
 | [],_,_,h,_=>by cases h
 | q :: tl,L,hp,hm,h0=>by
   rw [List.pairwise_cons] at hp
   show ay (vz L q) tl (who.toNat - 1)=[v]
   rcases List.mem_cons.1 hm with rfl|hm
   ·rw [tellL_keep h1 tl _ (fun q' h'=>(hp.1 q' h').symm)]
    unfold vz
    rw [if_pos ⟨h1,h4⟩]
    unfold upd
    rw [if_pos rfl,h0]
    rfl
   ·have hne:q.1≠who:=hp.1 _ hm
    exact tellL_told h1 h4 tl _ hp.2 hm (by rw [tell1_other h1 hne];exact h0)
theorem toldL_mem {x:Int}:∀ (tl:List (Int × Int)) (u:Int),tl.foldl (fun acc q=>if q.1=x then q.2 else acc) u≠u→(x,tl.foldl (fun acc q=>if q.1=x then q.2 else acc) u) ∈ tl∨∃ v,(x,v) ∈ tl
 | [],_,h=>absurd rfl h
 | q :: tl,u,h=>by
   rw [List.foldl_cons] at h
   by_cases e:q.1=x
   ·right;exact ⟨q.2,by rw [←e];exact List.mem_cons_self⟩
   ·rw [if_neg e] at h
    rcases toldL_mem tl u h with h1|⟨v,h1⟩
    ·right;exact ⟨_,List.mem_cons_of_mem _ h1⟩
    ·right;exact ⟨v,List.mem_cons_of_mem _ h1⟩
theorem told_is {x:Int} {tl:List (Int × Int)} (hp:tl.Pairwise fun a b=>a.1≠b.1) (h:Go.Proofs.YtpkhdihoijkamaaGreatDoor.toldL tl x≠0):(x,Go.Proofs.YtpkhdihoijkamaaGreatDoor.toldL tl x) ∈ tl:=by
 have:∃ v,(x,v) ∈ tl:=by
  rcases toldL_mem tl 0 h with h1|h1
  ·exact ⟨_,h1⟩
  ·exact h1
 obtain ⟨v,hv⟩:=this
 rw [Go.Proofs.YtpkhdihoijkamaaGreatDoor.told_mem hp hv];exact hv
theorem key_in {x:Int}:∀ {l:List (Int × Int)},Go.Proofs.YtpkhdihoijkamaaGreatDoor.keyOf l x≠0→∃ r ∈ l,r.1=x
 | [],h=>absurd rfl h
 | r :: l,h=>by
   unfold Go.Proofs.YtpkhdihoijkamaaGreatDoor.keyOf at h
   split at h
   ·exact ⟨r,List.mem_cons_self,by assumption⟩
   ·obtain ⟨r',hm,e⟩:=key_in (l:=l) h
    exact ⟨r',List.mem_cons_of_mem _ hm,e⟩
theorem change_done {M:TM} {c:CmD} (h:SI M) (ok:G.GOK M.rs M.up) (hc:c.f=0) (h0:(lu M c).1=0) :
 (c.o M.s).f=0∧(lu M c).2.s=outS (c.o M.s)∧(lu M c).2.L=ay M.L (c.o M.s).tl:=by
 unfold lu at h0 ⊢
 by_cases hf:(c.o M.s).f=0
 ·rw [if_pos hf] at h0 ⊢
  have hs:=h.out hc hf
  by_cases h1:(ol M (c.o M.s)).1=0
  ·rw [if_pos h1]
   refine ⟨hf,?_,?_⟩
   ·show (ol M (c.o M.s)).2.s=_
    unfold ol at h1 ⊢
    split
    ·rename_i hl
     rw [if_pos hl] at h1
     rcases yx h ok hs with ⟨_,e⟩|⟨_,_,e⟩|⟨_,_,D',e,_⟩
     ·rw [e] at h1;exact absurd (show (7:Int)=0 from h1) (by decide)
     ·rw [e] at h1;exact absurd (show (6:Int)=0 from h1) (by decide)
     ·rw [e]
    ·exact (h.keep ⟨h.e1,h.e9⟩ hs).2.2.1
   ·show ay (ol M (c.o M.s)).2.L (c.o M.s).tl=_
    rw [change1_L]
  ·rw [if_neg h1] at h0
   exact absurd h0 h1
 ·rw [if_neg hf] at h0
  exact absurd h0 hf
theorem heard_says {M:TM} {c:CmD} {who:Int} (hA:All M) (hc:c.f=0) (hop:c.op=5∨c.op=6) (h1:1≤who) (h4:who≤4) (hne:who≠c.who) (hL:M.L (who.toNat - 1)=[]) (h0:(au M c).1.f=0) (hk:Go.Proofs.YtpkhdihoijkamaaGreatDoor.keyOf M.s.l who≠0) (hk2:¬0<Go.Proofs.YtpkhdihoijkamaaGreatDoor.keyOf (au M c).2.s.l who) :
 jf ((au M c).2.L (who.toNat - 1))=1∨jf ((au M c).2.L (who.toNat - 1))=3:=by
 have hR:au M c=(⟨ll,0,0,(lu (mute M c) c).1⟩,(lu (mute M c) c).2):=by
  unfold au kr
  rw [if_pos hc,if_neg (by omega),if_neg (by omega),if_neg (by omega)]
 rw [hR] at h0 hk2 ⊢
 have hsi:SI (mute M c):=hA.si.with rfl rfl rfl
 obtain ⟨hf,hs,hLL⟩:=change_done hsi hA.gi.ok hc h0
 have hw:=Go.Proofs.YtpkhdihoijkamaaGreatDoor.cmd_ok hc
 have hms:(mute M c).s=M.s:=rfl
 rw [hms] at hf hs hLL
 have hLm:(mute M c).L (who.toNat - 1)=[]:=by
  show upd M.L c.j [] (who.toNat - 1)=[]
  unfold upd
  split
  ·rfl
  ·exact hL
 have hk2':¬0<Go.Proofs.YtpkhdihoijkamaaGreatDoor.keyOf (lu (mute M c) c).2.s.l who:=hk2
 rw [hs] at hk2'
 have hT:Go.Proofs.YtpkhdihoijkamaaGreatDoor.Told M.s.l (c.o M.s).l c.who (c.o M.s).tl:=Go.Proofs.YtpkhdihoijkamaaGreatDoor.do_told (y:=M.s.y) (op:=c.op) (who:=c.who) (key:=c.key) (new:=c.new) (kind:=c.ty) (st:=c.st) hA.si.f hf
 obtain ⟨r,hr,hrw⟩:=key_in hk
 have hl:=hT.lost r hr (by rw [hrw];exact hne) (by rw [hrw];exact hk2')
 rw [hrw] at hl
 have hn0:Go.Proofs.YtpkhdihoijkamaaGreatDoor.toldL (c.o M.s).tl who≠0:=by omega
 have hm:=told_is hT.once hn0
 have:=tellL_told h1 h4 (c.o M.s).tl (mute M c).L hT.once hm hLm
 show jf ((lu (mute M c) c).2.L (who.toNat - 1))=1∨jf ((lu (mute M c) c).2.L (who.toNat - 1))=3
 rw [hLL,this]
 exact hl
theorem keyU (s:KS) (a:Option Addr) (c:Nat) (who:Int) (w:World) (hr:Go.Proofs.YtpkhdihoijkamaaGreatDoor.Row w a s.l.length s.l) :
 Calls Tryz.prog 42 #[.agg (s.vs a c).toArray,.int .i64 who] w fun e w'=>e=.returned (.int .i64 (Go.Proofs.YtpkhdihoijkamaaGreatDoor.keyOf s.l who))∧Below w.heap.size w w':=Go.Proofs.YtpkhdihoijkamaaGreatDoor.xq s.g s.t s.hd a s.l.length c s.y s.l who w hr
structure InW (w0 wr:World) (t b3:Nat) (M:TM) (p:TP) (n:Nat) (cm:CmD):Prop where
 pl:Plain w0 wr t M p n
 A3:At wr b3 cm.vs 24
 o3:¬p.F b3
theorem InW.later {w0 wr wx:World} {t b3:Nat} {M:TM} {p:TP} {n:Nat} {cm:CmD} (h:InW w0 wr t b3 M p n cm) (hb:Below wr.heap.size wr wx):InW w0 wx t b3 M p n cm:=⟨⟨h.pl.tg.later hb,h.pl.ti,h.pl.al⟩,h.A3.later hb h.A3.lt,h.o3⟩
theorem InW.moved {w0 wr wx:World} {t b3:Nat} {M M':TM} {p p':TP} {n n':Nat} {cm:CmD} (h:InW w0 wr t b3 M p n cm) (hm:ae p.F p'.F wr wx) (hp:Plain w0 wx t M' p' n'):InW w0 wx t b3 M' p' n' cm:=⟨hp,hm.at h.A3 h.o3,hm.not h.A3.lt h.o3⟩
set_option maxRecDepth 100000 in
set_option maxHeartbeats 16000000 in
theorem topHeard_walk (w:World) (hL:K.Laid w) (a:Option Addr) (n c:Nat) (l:List ig) (h:jh w a n l) (hop:jq l) (cm:CmD) (hcop:(Lit.int .i64 cm.op).wf=true) (hcd:cm.da.size≤9223372036854775807) (hcw:cm.wa.size≤9223372036854775807) (who:Int) (_:(Lit.int .i64 who).wf=true) :
 Calls Tryz.prog 13 #[.slice a n c,.agg cm.vs.toArray,.int .i64 who] w fun r w'=>r=.returned (.bool true)∧Below w.heap.size w w':=by
 obtain rfl:=h.len
 obtain ⟨X,hX,a0,bX,sX⟩:=Go.Proofs.YtpkhdihoijkamaaGreatDoor.D.one w (.cells cm.vs.toArray 24)
 have HC0:Hid (At X w.heap.size cm.vs 24):=a0
 have HCO:Hid ((Lit.int .i64 cm.op).wf=true∧cm.da.size≤9223372036854775807∧cm.wa.size≤9223372036854775807):=⟨hcop,hcd,hcw⟩
 have HL:Hid (K.Laid X):=hL.later bX
 have HA:Hid (jh X a l.length l∧jq l):=⟨h.later bX,hop⟩
 have HB0:Hid (Below w.heap.size w X):=bX
 clear h hop hL a0 bX sX hcop hcd hcw
 go_enter Tryz.func13,Tryz.ntmps13
 go_wp2_with fail
 rw [←hX]
 clear hX
 obtain ⟨b3,hb3⟩:∃ b3,w.heap.size=b3:=⟨_,rfl⟩
 have HB3:Hid (w.heap.size=b3):=hb3
 rw [hb3] at HC0 ⊢
 clear hb3
 refine (zy X HL.out).mono ?_
 rintro r W0 ⟨rfl,bw0⟩
 replace HB0:Hid (Below w.heap.size w W0):=HB0.out.trans (bw0.mono HB0.out.size)
 have HL0:Hid (K.Laid W0):=HL.out.later bw0
 have HA0:Hid (jh W0 a l.length l∧jq l):=⟨HA.out.1.later bw0,HA.out.2⟩
 replace HC0:Hid (At W0 b3 cm.vs 24):=HC0.out.later bw0 HC0.out.lt
 clear bw0 HL HA
 go_wp2_with fail
 refine (aa5 W0 HL0.out a l.length c l HA0.out.1 HA0.out.2).mono ?_
 rintro r V ⟨bV,hres⟩
 rcases hres with ⟨hl,rfl⟩|⟨hl,t,p,D,rfl,hA⟩
 ·have HBW:Hid (Below w.heap.size w V):=HB0.out.trans (bV.mono HB0.out.size)
  clear bV hl HL0 HA0 HC0 HCO HB0
  go_wp2
  go_ret
  exact ⟨rfl,HBW.out⟩
 have HN:Hid (l.length≤80):=by show l.length≤80;simp [om] at hl;omega
 have HPL:Hid (Plain W0 V t (gp (dh D) l) p l.length):=hA.plain
 have HC:Hid (At V b3 cm.vs 24∧¬p.F b3):=⟨HC0.out.later bV HC0.out.lt,fun f=>by have:=hA.tg.above b3 f;have:=HC0.out.lt;omega⟩
 generalize gp (dh D) l=M at *
 generalize p.b=b at *
 clear bV hl hA HA0 HC0
 have HLC:Hid ((Instr.loadAt 24 (.pointer (some ⟨b3,0,.none⟩))).run Tryz.prog V=.ok (.agg cm.vs.toArray) V):=vv HC.out.1
 have HCK:Hid (Calls Tryz.prog 17 #[.agg cm.vs.toArray] V fun r w'=>r=.returned (ai cm.f)∧Below V.heap.size V w'):=K.aas cm.op cm.who cm.key cm.new cm.ty cm.at' cm.st cm.da cm.wa HCO.out.1 HCO.out.2.1 HCO.out.2.2 V
 go_wp2_with (with_reducible refine ak HLC.out rfl rfl ?_)
 refine HCK.out.mono ?_
 rintro r V1 ⟨rfl,bV⟩
 replace HPL:Hid (Plain W0 V1 t M p l.length):=⟨HPL.out.tg.later bV,HPL.out.ti,HPL.out.al⟩
 replace HC:Hid (At V1 b3 cm.vs 24∧¬p.F b3):=⟨HC.out.1.later bV HC.out.1.lt,HC.out.2⟩
 clear bV HLC HCK
 by_cases hc:cm.f=0
 case neg =>
  rw [ut hc]
  have HBW:Hid (Below w.heap.size w V1):=HB0.out.trans (HPL.out.tg.bw.mono HB0.out.size)
  clear hc
  go_wp2
  go_ret
  exact ⟨rfl,HBW.out⟩
 rw [hc,show ai 0=.nilIface from rfl]
 have HF:Hid (cm.f=0):=hc
 clear hc
 have c30:V1.cell? ⟨b3,0,.none⟩=some (.int .i64 cm.op):=HC.out.1.cell 0
 have c31:V1.cell? ⟨b3,1,.none⟩=some (.int .i64 cm.who):=HC.out.1.cell 1
 have HBW:Hid (Below w.heap.size w V1):=HB0.out.trans (HPL.out.tg.bw.mono HB0.out.size)
 by_cases h56:cm.op=5∨cm.op=6
 case neg =>
  have h5:¬(cm.op=5):=fun e=>h56 (.inl e)
  have h6:¬(cm.op=6):=fun e=>h56 (.inr e)
  clear h56
  go_wp2
  go_ret
  exact ⟨rfl,HBW.out⟩
 have H56:Hid (cm.op=5∨cm.op=6):=h56
 have hop56:((cm.op != 6) && (cm.op != 5))=false:=by rcases h56 with e|e <;> rw [e] <;> rfl
 by_cases hw1:who<1
 case pos =>
  clear h56
  rcases H56.out with e|e
  ·rw [e] at c30
   go_wp2
   go_ret
   exact ⟨rfl,HBW.out⟩
  ·rw [e] at c30
   go_wp2
   go_ret
   exact ⟨rfl,HBW.out⟩
 by_cases hw4:4<who
 case pos =>
  clear h56
  rcases H56.out with e|e
  ·rw [e] at c30
   go_wp2
   go_ret
   exact ⟨rfl,HBW.out⟩
  ·rw [e] at c30
   go_wp2
   go_ret
   exact ⟨rfl,HBW.out⟩
 by_cases hwc:who=cm.who
 case pos =>
  clear h56
  rw [←hwc] at c31
  rcases H56.out with e|e
  ·rw [e] at c30
   go_wp2
   go_ret
   exact ⟨rfl,HBW.out⟩
  ·rw [e] at c30
   go_wp2
   go_ret
   exact ⟨rfl,HBW.out⟩
 have HW:Hid (1≤who∧who≤4∧who≠cm.who):=⟨by omega,by omega,hwc⟩
 have HQ0:Hid (InW W0 V1 t b3 M p l.length cm):=⟨HPL.out,HC.out.1,HC.out.2⟩
 obtain ⟨k9,hk9,hlen9⟩:∃ k:Nat,(k:Int)=0∧(M.L (who.toNat - 1)).length+k≤5:=⟨0,rfl,by have:=HPL.out.ti.bl (who.toNat - 1) (by have:=HW.out;omega);omega⟩
 have HN5:Hid ((M.L (who.toNat - 1)).length≤5):=HPL.out.ti.bl (who.toNat - 1) (by have:=HW.out;omega)
 clear h56 HBW hk9 hlen9
 rcases H56.out with e|e
 all_goals
  rw [e] at c30
  clear e
  have HQ1:Hid (InW W0 V1 t b3 M p l.length cm):=HQ0.out
  have hwc':(who == cm.who)=false:=by simpa using hwc
  clear HQ0 HPL HC hop56 hwc
  go_upto_region 7 with fail
  clear hw1 hw4 hwc' c30 c31
  go_wp2
  go_loopw [10] (fun v wr=>∃ (k:Nat) (Mk:TM) (pk:TP),v=.int .i64 k∧(Mk.L (who.toNat - 1)).length+k≤5∧InW W0 wr t b3 Mk pk (l.length+k) cm) (fun v _=>6 - (intOf v).toNat)
  case atStart=>exact ⟨0,M,p,rfl,HN5.out,HQ1.out⟩
  case round =>
   clear HQ1 HN5
   obtain ⟨k,Mk,pk,rfl,hlen,hq⟩:=hrel
   have HQ:Hid (InW W0 wr t b3 Mk pk (l.length+k) cm):=hq
   have HLEN:Hid ((Mk.L (who.toNat - 1)).length+k≤5):=hlen
   have hki:(k:Int)≤5:=by omega
   clear hq hlen
   have HAS:Hid (Calls Tryz.prog 36 #[.pointer (some ⟨t,0,.none⟩),.agg #[.int .i64 7,.int .i64 who,.int .i64 0,.int .i64 0,.int .i64 0,.int .i64 0,.bool false,.string ⟨#[]⟩,.string ⟨#[]⟩]] wr fun r w'=>r=.returned (.tuple #[.string (av Mk (rdW who)).1.data,.int .i64 (av Mk (rdW who)).1.tag,.int .i64 (av Mk (rdW who)).1.what,ai (av Mk (rdW who)).1.f]) ∧
    ∃ p',aa W0 w' t (av Mk (rdW who)).2 p'∧p'.k=pk.k∧p'.b=pk.b∧ae pk.F p'.F wr w'):=zu HQ.out.pl.tg HL0.out HQ.out.pl.ti (by have:=HN.out;have:=HLEN.out;omega) (rdW who) (by show (Lit.int .i64 7).wf=true;decide) (by show (⟨#[]⟩:ByteArray).size≤9223372036854775807;decide) (by show (⟨#[]⟩:ByteArray).size≤9223372036854775807;decide)
   go_wp2_with fail
   refine HAS.out.mono ?_
   rintro r V2 ⟨rfl,p',hT,_,_,hm⟩
   have hf:=rdW_f HW.out.1 HW.out.2.1
   have HQ2:Hid (InW W0 V2 t b3 (av Mk (rdW who)).2 p' (l.length+k+1) cm):=HQ.out.moved hm ⟨hT,HQ.out.pl.ti.ask (HQ.out.pl.tg.mp.tidy x9) _,HQ.out.pl.al.av _⟩
   have hj:(rdW who).j=who.toNat - 1:=rfl
   have hb:=HQ.out.pl.al.bi (who.toNat - 1) (by have:=HW.out;omega)
   by_cases hh:jf (Mk.L (who.toNat - 1))=0
   case neg =>
    have ha:av Mk (rdW who)=(⟨ll,0,jf (Mk.L (who.toNat - 1)),0⟩,iw Mk (rdW who)):=by unfold av;rw [if_pos hf,if_neg (by rw [hj];exact hh),hj]
    rw [ha] at HQ2 ⊢
    have HLN:Hid (((iw Mk (rdW who)).L (who.toNat - 1)).length+(k+1)≤5):=by
     have hl:(iw Mk (rdW who)).L (who.toNat - 1)=(Mk.L (who.toNat - 1)).tail:=by show upd Mk.L (rdW who).j _ (who.toNat - 1)=_;unfold upd;rw [hj,if_pos rfl]
     show ((iw Mk (rdW who)).L (who.toNat - 1)).length+(k+1)≤5
     have hne:Mk.L (who.toNat - 1)≠[]:=fun e=>hh (by rw [e];rfl)
     have:=List.length_pos_iff.2 hne
     have:=HLEN.out
     rw [hl,List.length_tail];omega
    have HQ3:Hid (InW W0 V2 t b3 (iw Mk (rdW who)) p' (l.length+(k+1)) cm):=HQ2.out
    generalize jf (Mk.L (who.toNat - 1))=hd at *
    have hh':¬(hd=0):=hh
    rw [show ai ((⟨ll,0,hd,0⟩:Ans),iw Mk (rdW who)).1.f=.nilIface from rfl]
    clear hT hm hf hj hb hh ha HAS HQ HQ2
    go_wp2
    exact ⟨⟨k+1,iw Mk (rdW who),p',by go_num,HLN.out,HQ3.out⟩,by simp [intOf];have:=HLN.out;omega⟩
   have hnil:Mk.L (who.toNat - 1)=[]:=(head_0 hb).1 hh
   have hw0:(av Mk (rdW who)).1.what=0:=by unfold av;rw [if_pos hf,if_pos (by rw [hj];exact hh)];exact ask2_what _ _
   have hL2:(av Mk (rdW who)).2.L (who.toNat - 1)=[]:=by
    unfold av
    rw [if_pos hf,if_pos (by rw [hj];exact hh),ask2_L _ _ (.inl rfl)]
    show upd Mk.L (rdW who).j _ (who.toNat - 1)=[]
    unfold upd
    rw [hj,if_pos rfl,hnil];rfl
   rw [hw0]
   obtain ⟨M2,hM2⟩:∃ M2,(av Mk (rdW who)).2=M2:=⟨_,rfl⟩
   rw [hM2] at HQ2 hL2
   have HLE:Hid (M2.L (who.toNat - 1)=[]):=hL2
   have HN2:Hid (l.length+k+1≤86):=by show l.length+k+1≤86;have:=HN.out;have:=HLEN.out;omega
   obtain ⟨n2,hn2⟩:∃ n2,l.length+k+1=n2:=⟨_,rfl⟩
   rw [hn2] at HQ2 HN2
   generalize (av Mk (rdW who)).1=A at *
   clear hT hm hf hj hb hh hnil hw0 hL2 hM2 HAS HQ HLEN HN hn2
   go_wp2_with fail
   refine HQ2.out.pl.tg.st.mono ?_
   rintro r V3 ⟨a1,c1,rfl,r1,_,b3'⟩
   obtain ⟨V4,hst,A8,b4⟩:=newS M2.s a1 c1 V3
   have HST:Hid ((Instr.storeAt 36 (.pointer (some ⟨V3.heap.size,0,.none⟩)) (.agg (M2.s.vs a1 c1).toArray)).run Tryz.prog (V3.alloc (.cells #[.int .i64 0,.slice .none 0 0,.int .i64 0,.int .i64 0,.bool false] 36))=.ok () V4):=hst
   obtain ⟨b15,hb15⟩:∃ b15,V3.heap.size=b15:=⟨_,rfl⟩
   have h15:¬p'.F b15:=fun f=>by have:=HQ2.out.pl.tg.foot _ f;have:=b3'.size;omega
   have H15:Hid (At V4 b15 (M2.s.vs a1 c1) 36∧iy V4 p' a1 M2.s∧¬p'.F b15):=⟨by rw [←hb15];exact A8,r1.later b4,h15⟩
   have HQ4:Hid (InW W0 V4 t b3 M2 p' n2 cm):=(HQ2.out.later b3').later b4
   have HB15:Hid (V3.heap.size=b15):=hb15
   clear hst A8 b4 r1 b3' h15 hb15 HQ2
   go_upto_region 13 with (with_reducible refine cu HST.out rfl rfl ?_)
   clear HST
   rw [HB15.out]
   clear HB15
   have HLC:Hid ((Instr.loadAt 24 (.pointer (some ⟨b3,0,.none⟩))).run Tryz.prog V4=.ok (.agg cm.vs.toArray) V4):=vv HQ4.out.A3
   have HAT:Hid (Calls Tryz.prog 20 #[.pointer (some ⟨t,0,.none⟩),.agg cm.vs.toArray] V4 fun r w'=>r=.returned (.tuple #[.string (au M2 cm).1.data,.int .i64 (au M2 cm).1.tag,ai (au M2 cm).1.f]) ∧
    ∃ p2,aa W0 w' t (au M2 cm).2 p2∧p2.k=p'.k∧p2.b=p'.b∧ae p'.F p2.F V4 w'):=askT_any HQ4.out.pl.tg HL0.out HQ4.out.pl.ti (by have:=HN2.out;omega) HQ4.out.pl.al.bi cm HCO.out.1 HCO.out.2.1 HCO.out.2.2
   go_wp2_with (with_reducible refine ak HLC.out rfl rfl ?_)
   refine HAT.out.mono ?_
   rintro r V5 ⟨rfl,p2,hT,_,_,hm⟩
   have HSY:Hid ((au M2 cm).1.f=0→Go.Proofs.YtpkhdihoijkamaaGreatDoor.keyOf M2.s.l who≠0→Go.Proofs.YtpkhdihoijkamaaGreatDoor.keyOf (au M2 cm).2.s.l who≤0→jf ((au M2 cm).2.L (who.toNat - 1))=1∨jf ((au M2 cm).2.L (who.toNat - 1))=3):=fun h0 hk hk2=>heard_says HQ4.out.pl.al HF.out H56.out HW.out.1 HW.out.2.1 HW.out.2.2 HLE.out h0 hk (by omega)
   have hall:=HQ4.out.pl.al.au HQ4.out.pl.ti cm
   have HQ5:Hid (Plain W0 V5 t (au M2 cm).2 p2 (n2+1)):=⟨hT,HQ4.out.pl.ti.au (HQ4.out.pl.tg.mp.tidy x9) cm,hall.1⟩
   have H155:Hid (At V5 b15 (M2.s.vs a1 c1) 36∧Go.Proofs.YtpkhdihoijkamaaGreatDoor.Row V5 a1 M2.s.l.length M2.s.l):=⟨hm.at H15.out.1 H15.out.2.2,(H15.out.2.1.moved hm).row⟩
   generalize au M2 cm=R at *
   obtain ⟨A2,M3⟩:=R
   replace HSY:Hid (A2.f=0→Go.Proofs.YtpkhdihoijkamaaGreatDoor.keyOf M2.s.l who≠0→Go.Proofs.YtpkhdihoijkamaaGreatDoor.keyOf M3.s.l who≤0→jf (M3.L (who.toNat - 1))=1∨jf (M3.L (who.toNat - 1))=3):=HSY.out
   replace HQ5:Hid (Plain W0 V5 t M3 p2 (n2+1)):=HQ5.out
   clear hT hm hall HAT HLC H15 HQ4
   go_wp2_with fail
   refine HQ5.out.tg.st.mono ?_
   rintro r V6 ⟨a2,c2,rfl,r2,_,b6⟩
   obtain ⟨V7,hst,A9,b7⟩:=newS M3.s a2 c2 V6
   have HST:Hid ((Instr.storeAt 36 (.pointer (some ⟨V6.heap.size,0,.none⟩)) (.agg (M3.s.vs a2 c2).toArray)).run Tryz.prog (V6.alloc (.cells #[.int .i64 0,.slice .none 0 0,.int .i64 0,.int .i64 0,.bool false] 36))=.ok () V7):=hst
   obtain ⟨b19,hb19⟩:∃ b19,V6.heap.size=b19:=⟨_,rfl⟩
   have HB19:Hid (V6.heap.size=b19):=hb19
   have H19:Hid (At V7 b19 (M3.s.vs a2 c2) 36∧Go.Proofs.YtpkhdihoijkamaaGreatDoor.Row V7 a2 M3.s.l.length M3.s.l):=⟨by rw [←hb19];exact A9,r2.row.later b7⟩
   have H157:Hid (At V7 b15 (M2.s.vs a1 c1) 36∧Go.Proofs.YtpkhdihoijkamaaGreatDoor.Row V7 a1 M2.s.l.length M2.s.l):=⟨(H155.out.1.later b6 H155.out.1.lt).later b7 (by have:=H155.out.1.lt;have:=b6.size;omega),(H155.out.2.later b6).later b7⟩
   have HQ7:Hid (Plain W0 V7 t M3 p2 (n2+1)):=⟨(HQ5.out.tg.later b6).later b7,HQ5.out.ti,HQ5.out.al⟩
   clear hst A9 b6 b7 r2 hb19 H155 HQ5
   go_upto_region 15 with (with_reducible refine cu HST.out rfl rfl ?_)
   clear HST
   rw [HB19.out]
   clear HB19
   have HE7:Hid (Below w.heap.size w V7):=HB0.out.trans (HQ7.out.tg.bw.mono HB0.out.size)
   by_cases hf:A2.f=0
   case neg =>
    rw [ut hf]
    clear hf HSY
    go_wp2
    go_ret
    exact ⟨rfl,HE7.out⟩
   rw [hf,show ai 0=.nilIface from rfl]
   have HSY2:Hid (Go.Proofs.YtpkhdihoijkamaaGreatDoor.keyOf M2.s.l who≠0→Go.Proofs.YtpkhdihoijkamaaGreatDoor.keyOf M3.s.l who≤0→jf (M3.L (who.toNat - 1))=1∨jf (M3.L (who.toNat - 1))=3):=HSY.out hf
   have HL15:Hid ((Instr.loadAt 36 (.pointer (some ⟨b15,0,.none⟩))).run Tryz.prog V7=.ok (.agg (M2.s.vs a1 c1).toArray) V7):=jk H157.out.1
   clear hf HSY
   go_wp2_with (with_reducible refine ak HL15.out rfl rfl ?_)
   refine (keyU M2.s a1 c1 who V7 H157.out.2).mono ?_
   rintro r V8 ⟨rfl,b8⟩
   replace H19:Hid (At V8 b19 (M3.s.vs a2 c2) 36∧Go.Proofs.YtpkhdihoijkamaaGreatDoor.Row V8 a2 M3.s.l.length M3.s.l):=⟨H19.out.1.later b8 H19.out.1.lt,H19.out.2.later b8⟩
   replace HQ7:Hid (Plain W0 V8 t M3 p2 (n2+1)):=⟨HQ7.out.tg.later b8,HQ7.out.ti,HQ7.out.al⟩
   have HE8:Hid (Below w.heap.size w V8):=HE7.out.trans (b8.mono HE7.out.size)
   obtain ⟨ko,hko⟩:∃ ko,Go.Proofs.YtpkhdihoijkamaaGreatDoor.keyOf M2.s.l who=ko:=⟨_,rfl⟩
   rw [hko] at HSY2 ⊢
   clear b8 hko HL15 H157 HE7
   by_cases hk0:ko=0
   ·subst hk0
    clear HSY2
    go_wp2
    go_ret
    exact ⟨rfl,HE8.out⟩
   have hk0':(ko == 0)=false:=by simpa using hk0
   have HSY3:Hid (Go.Proofs.YtpkhdihoijkamaaGreatDoor.keyOf M3.s.l who≤0→jf (M3.L (who.toNat - 1))=1∨jf (M3.L (who.toNat - 1))=3):=HSY2.out hk0
   have HL19:Hid ((Instr.loadAt 36 (.pointer (some ⟨b19,0,.none⟩))).run Tryz.prog V8=.ok (.agg (M3.s.vs a2 c2).toArray) V8):=jk H19.out.1
   clear HSY2 hk0
   go_wp2_with (with_reducible refine ak HL19.out rfl rfl ?_)
   refine (keyU M3.s a2 c2 who V8 H19.out.2).mono ?_
   rintro r V9 ⟨rfl,b9⟩
   have HQ9:Hid (Plain W0 V9 t M3 p2 (n2+1)):=⟨HQ7.out.tg.later b9,HQ7.out.ti,HQ7.out.al⟩
   have HE9:Hid (Below w.heap.size w V9):=HE8.out.trans (b9.mono HE8.out.size)
   obtain ⟨kn,hkn⟩:∃ kn,Go.Proofs.YtpkhdihoijkamaaGreatDoor.keyOf M3.s.l who=kn:=⟨_,rfl⟩
   rw [hkn] at HSY3 ⊢
   clear b9 hkn HL19 H19 HQ7 HE8
   by_cases hkp:0<kn
   ·clear HSY3
    go_wp2
    go_ret
    exact ⟨rfl,HE9.out⟩
   have HH:Hid (jf (M3.L (who.toNat - 1))=1∨jf (M3.L (who.toNat - 1))=3):=HSY3.out (by omega)
   have hf:=rdW_f HW.out.1 HW.out.2.1
   have ha:av M3 (rdW who)=(⟨ll,0,jf (M3.L (who.toNat - 1)),0⟩,iw M3 (rdW who)):=by
    have hj:(rdW who).j=who.toNat - 1:=rfl
    unfold av;rw [if_pos hf,if_neg (by rw [hj];have:=HH.out;omega),hj]
   have HAS:Hid (Calls Tryz.prog 36 #[.pointer (some ⟨t,0,.none⟩),.agg #[.int .i64 7,.int .i64 who,.int .i64 0,.int .i64 0,.int .i64 0,.int .i64 0,.bool false,.string ⟨#[]⟩,.string ⟨#[]⟩]] V9 fun r w'=>r=.returned (.tuple #[.string ll,.int .i64 0,.int .i64 (jf (M3.L (who.toNat - 1))),ai 0])∧Below W0.heap.size W0 w'):=by
    have:=zu HQ9.out.tg HL0.out HQ9.out.ti (by have:=HN2.out;omega) (rdW who) (by show (Lit.int .i64 7).wf=true;decide) (by show (⟨#[]⟩:ByteArray).size≤9223372036854775807;decide) (by show (⟨#[]⟩:ByteArray).size≤9223372036854775807;decide)
    rw [ha] at this
    exact this.mono fun r w' ⟨h1,p',h2,_⟩=>⟨h1,h2.bw⟩
   have hkp':¬(0<kn):=hkp
   clear HSY3 hf ha hkp
   go_wp2_with fail
   refine HAS.out.mono ?_
   rintro r V10 ⟨rfl,b10⟩
   have HE10:Hid (Below w.heap.size w V10):=HB0.out.trans (b10.mono HB0.out.size)
   rw [show ai 0=.nilIface from rfl]
   clear b10 HAS HQ9 HE9
   rcases HH.out with e|e
   ·rw [e]
    go_wp2
    go_ret
    exact ⟨rfl,HE10.out⟩
   ·rw [e]
    go_wp2
    go_ret
    exact ⟨rfl,HE10.out⟩
end Go.Proofs.YtpkhdihoijkamaaGreatDoor.U
