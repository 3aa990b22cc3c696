/- Several texts of this seat in one: UWrite, GMore, GInv. No statement of the seat is proved here. -/
import Derived.Test.YtpkhdihoijkamaaGreatDoorZA29
import Derived.Test.YtpkhdihoijkamaaGreatDoorZA28
namespace Go.Proofs.YtpkhdihoijkamaaGreatDoor.U
open Go.ChangeShapes Go.WideShapes Go.ChangeAt Go.RowKit Go.Deep Go.Maps
open Go.Proofs.YtpkhdihoijkamaaGreatDoor.D
theorem TI.rs {M:TM} {N:Nat} (h:TI M N) (rs:List G.Rep):TI { M with rs:=rs } N:=⟨fun m hm=>⟨(h.fl m hm).d0,(h.fl m hm).d3,(h.fl m hm).k8,(h.fl m hm).t1,(h.fl m hm).tn⟩,h.wv,h.ws,h.fn,h.dn,h.n0,h.nn,h.bl⟩
theorem TI.ready {M:TM} {N:Nat} (h:TI M N):TI (dx M) N:=by
 unfold dx
 split
 ·exact h.rs _
 ·exact h
theorem TI.allow {M:TM} {N:Nat} (h:TI M N) (c:CmD):TI (ic M c) N:=by
 unfold ic
 split
 ·exact h.ready
 ·exact h
set_option maxRecDepth 100000 in
set_option maxHeartbeats 8000000 in
theorem write_any {w0 w:World} {t:Nat} {M:TM} {p:TP} (h:aa w0 w t M p) {N:Nat} (hI:TI M N) (hN:N<1000000) (c:CmD) (k:Nat) (hk:c.at'=k) :
 Calls Tryz.prog 70 #[.pointer (some ⟨t,0,.none⟩),.agg c.vs.toArray] w fun r w'=>r=.returned (.tuple #[.int .i64 (qb M c).1,ai (qb M c).2.1])∧∃ p',aa w0 w' t (qb M c).2.2 p'∧p'.k=p.k∧p'.b=p.b∧ae p.F p'.F w w':=by
 obtain ⟨X,hX,a0,bX,sX⟩:=Go.Proofs.YtpkhdihoijkamaaGreatDoor.D.one w (.cells c.vs.toArray 24)
 have A3:At X w.heap.size c.vs 24:=a0
 have HT:Hid (aa w0 X t M p):=h.later bX
 have HM:Hid (ae p.F p.F w X):=ae.of bX (Nat.le_refl _)
 have hoff:¬p.F w.heap.size:=fun f=>by have:=h.foot _ f;omega
 have HLC:Hid ((Instr.loadAt 24 (.pointer (some ⟨w.heap.size,0,.none⟩))).run Tryz.prog X=.ok (.agg c.vs.toArray) X):=vv A3
 have HI:Hid (TI (ic M c) N∧N<1000000∧c.at'=k):=⟨hI.allow c,hN,hk⟩
 clear a0 bX sX h hI hN hk
 go_enter Tryz.func70,Tryz.ntmps70
 go_upto_region 1 with fail
 rw [←hX]
 clear hX
 obtain ⟨b3,hb3⟩:∃ b3,w.heap.size=b3:=⟨_,rfl⟩
 rw [hb3] at A3 hoff HLC ⊢
 clear hb3
 go_wp2_with (with_reducible refine ak HLC.out rfl rfl ?_)
 refine (allow_any HT.out c).mono ?_
 rintro r W ⟨rfl,t1,m1⟩
 have A4:At W b3 c.vs 24:=m1.at A3 hoff
 have HLC2:Hid ((Instr.loadAt 24 (.pointer (some ⟨b3,0,.none⟩))).run Tryz.prog W=.ok (.agg c.vs.toArray) W):=vv A4
 have HT1:Hid (aa w0 W t (ic M c) p):=t1
 replace HM:Hid (ae p.F p.F w W):=HM.out.trans m1
 clear t1 m1 A3 hoff HLC HT A4 X
 by_cases hal:ji M c=0
 case neg =>
  have HX:Hid (qb M c=(0,ji M c,ic M c)):=by show _=_;unfold qb;rw [if_neg hal]
  have HE:Hid (ai (ji M c)=.iface 96 (.int .i64 (ji M c))):=ut hal
  rw [HE.out]
  clear hal
  go_wp2
  go_ret2
  exact ⟨by rw [HX.out,HE.out];rfl,p,by rw [HX.out];exact HT1.out,rfl,rfl,HM.out⟩
 have HX:Hid (qb M c=qp (ic M c) c):=by show _=_;unfold qb;rw [if_pos hal]
 rw [hal,show ai 0=.nilIface from rfl]
 clear hal
 go_wp2_with (with_reducible refine ak HLC2.out rfl rfl ?_)
 refine (send_any HT1.out HI.out.1 HI.out.2.1 c k HI.out.2.2).mono ?_
 rintro r W2 ⟨rfl,p2,t2,k2,b2,m2⟩
 rw [←HX.out] at t2
 have HR:Hid (∃ p',aa w0 W2 t (qb M c).2.2 p'∧p'.k=p.k∧p'.b=p.b∧ae p.F p'.F w W2):=⟨p2,t2,k2,b2,HM.out.trans m2⟩
 rw [←HX.out]
 clear t2 k2 b2 m2 HT1
 go_wp2
 go_ret2
 exact ⟨rfl,HR.out⟩
end Go.Proofs.YtpkhdihoijkamaaGreatDoor.U
namespace Go.Proofs.YtpkhdihoijkamaaGreatDoor.G
set_option maxRecDepth 100000
open Go.Proofs.YtpkhdihoijkamaaGreatDoor.D
open Go.ChangeShapes Go.WideShapes Go.ChangeAt Go.RowKit Go.Deep
def ck (k:Nat) (r:Rep):Cel:=r.l.getD k zc
def rz (k:Nat):List Rep→Cel
 | []=>zc
 | r :: rs=>if di (rz k rs) (ck k r)=true then rz k rs else ck k r
def CS (rs:List Rep) (k:Nat) (c:Cel):Prop:=c=zc∨∃ i:Nat,i<3∧c=ck k (ah rs i)
theorem aat {a b c:Cel} (h:di a b=false) (h2:di b c=false):di a c=false:=by
 simp only [di,bne_iff_ne,ne_eq,ite_not,Bool.ite_eq_false_distrib,decide_eq_false_iff_not] at *
 split at h <;> split at h2 <;> split <;> omega
theorem adf {a b:Cel} (h:di a b=true):di b a=false:=by
 simp only [di,bne_iff_ne,ne_eq,ite_not] at *
 split at h <;> split <;> simp_all <;> omega
theorem aaw {l:List Cel} {k:Nat} {c d:Cel} (h:k<l.length):(l.set k c).getD k d=c:=by simp [h]
theorem getD_set_ne {l:List Cel} {j k:Nat} {c d:Cel} (h:j≠k):(l.set k c).getD j d=l.getD j d:=by
 simp [Ne.symm h]
theorem stepM_get (src m:List Cel) (k:Nat) (hk:k<8) (hm:fo m):∀ n,(stepM src m n).getD k zc=if k<n then (if di (m.getD k zc) (src.getD k zc)=true then m.getD k zc else src.getD k zc) else m.getD k zc
 | 0=>by simp [stepM]
 | n+1=>by
   have ih:=stepM_get src m k hk hm n
   have hl:(stepM src m n).length=8:=(stepM_ok (src:=src) hm n).len
   unfold stepM pickM
   by_cases h1:k=n
   ·subst h1
    rw [if_neg (show ¬k<k by omega)] at ih
    rw [if_pos (show k<k+1 by omega),ih]
    split
    ·exact ih
    ·exact aaw (by rw [hl];exact hk)
   ·split
    ·rw [ih]
     by_cases h2:k<n
     ·rw [if_pos h2,if_pos (show k<n+1 by omega)]
     ·rw [if_neg h2,if_neg (show ¬k<n+1 by omega)]
    ·rw [getD_set_ne h1,ih]
     by_cases h2:k<n
     ·rw [if_pos h2,if_pos (show k<n+1 by omega)]
     ·rw [if_neg h2,if_neg (show ¬k<n+1 by omega)]
theorem mrg_get (k:Nat) (hk:k<8):∀ rs:List Rep,(mrg rs).getD k zc=rz k rs
 | []=>by
   show (List.replicate 8 zc).getD k zc=zc
   simp only [List.getD_eq_getElem?_getD,List.getElem?_replicate,hk,if_true,Option.getD_some]
 | r :: rs=>by
   unfold mrg rz
   rw [stepM_get r.l (mrg rs) k hk (yj rs) 8,if_pos hk,mrg_get k hk rs]
   rfl
theorem best_ge (k:Nat):∀ (rs:List Rep) (r:Rep),r ∈ rs→di (ck k r) (rz k rs)=false
 | [],r,h=>by simp at h
 | s :: rs,r,h=>by
   unfold rz
   rcases List.mem_cons.1 h with rfl|h
   ·split
    ·rename_i hn;exact adf hn
    ·exact xw _
   ·have ih:=best_ge k rs r h
    split
    ·exact ih
    ·rename_i hn;exact aat ih (by simpa using hn)
theorem best_in (k:Nat):∀ (rs:List Rep),rz k rs=zc∨∃ r ∈ rs,rz k rs=ck k r
 | []=>.inl rfl
 | s :: rs=>by
   unfold rz
   split
   ·rcases best_in k rs with h|⟨r,hr,h⟩
    ·exact .inl h
    ·exact .inr ⟨r,List.mem_cons_of_mem _ hr,h⟩
   ·exact .inr ⟨s,List.mem_cons_self,rfl⟩
theorem mem_iff (rs:List Rep) (up:List Bool) (e:Int):∀ (n i:Nat),(i:Int) ∈ cz rs up e n↔i<n∧takes rs up e i=true
 | 0,i=>by simp [cz]
 | n+1,i=>by
   have ih:=mem_iff rs up e n i
   unfold cz
   split
   ·rename_i ht
    rw [List.mem_append,ih]
    constructor
    ·rintro (h|h)
     ·exact ⟨by omega,h.2⟩
     ·have:i=n:=by have h9:(i:Int)=n:=by simpa using h
                   omega
      subst this;exact ⟨by omega,ht⟩
    ·rintro ⟨h1,h2⟩
     by_cases h3:i=n
     ·right;subst h3;simp
     ·left;exact ⟨by omega,h2⟩
   ·rename_i ht
    rw [ih]
    constructor
    ·rintro ⟨h1,h2⟩;exact ⟨by omega,h2⟩
    ·rintro ⟨h1,h2⟩
     refine ⟨?_,h2⟩
     by_cases h3:i=n
     ·subst h3;exact absurd h2 ht
     ·omega
theorem two_of (rs:List Rep) (up:List Bool) (e:Int) (h:2≤(cz rs up e 3).length):∃ i j:Nat,i<j∧j<3∧takes rs up e i=true∧takes rs up e j=true:=by
 simp only [cz] at h
 cases h0:takes rs up e 0 <;> cases h1:takes rs up e 1 <;> cases h2:takes rs up e 2 <;> simp [h0,h1,h2] at h
 ·exact ⟨1,2,by omega,by omega,h1,h2⟩
 ·exact ⟨0,2,by omega,by omega,h0,h2⟩
 ·exact ⟨0,1,by omega,by omega,h0,h1⟩
 ·exact ⟨0,1,by omega,by omega,h0,h1⟩
theorem abf {rs:List Rep} {up:List Bool} {e:Int} {i:Nat} (h:takes rs up e i=true):(ah rs i).f=e:=by
 unfold takes at h
 rw [Bool.and_eq_true] at h
 unfold ah
 simpa using h.2
def bestM (rs:List Rep) (up:List Bool) (e:Int) (k:Nat):Cel:=rz k ((cz rs up e 3).map (ah rs))
theorem bestM_ge {rs:List Rep} {up:List Bool} {e:Int} (k:Nat) {i:Nat} (hi:i<3) (h:takes rs up e i=true):di (ck k (ah rs i)) (bestM rs up e k)=false :=
 best_ge k _ _ (List.mem_map.2 ⟨(i:Int),(mem_iff rs up e 3 i).2 ⟨hi,h⟩,rfl⟩)
theorem bestM_in (rs:List Rep) (up:List Bool) (e:Int) (k:Nat):bestM rs up e k=zc∨∃ i:Nat,i<3∧takes rs up e i=true∧bestM rs up e k=ck k (ah rs i):=by
 rcases best_in k ((cz rs up e 3).map (ah rs)) with h|⟨r,hr,h⟩
 ·exact .inl h
 ·obtain ⟨x,hx,rfl⟩:=List.mem_map.1 hr
  obtain ⟨m,hm,rfl⟩:=za rs up e 3 x hx
  exact .inr ⟨m,hm,((mem_iff rs up e 3 m).1 hx).2,h⟩
theorem readC_is (rs:List Rep) (up:List Bool) (e:Int) (k:Nat) (hk:k<8) (h:readB rs up e=true):ru rs up e k=bestM rs up e k:=by
 unfold ru;rw [if_pos h,mrg_get k hk];rfl
theorem abr {rs:List Rep} {i j:Nat} {r:Rep} (hi:i<rs.length):ah (rs.set i r) j=if i=j then r else ah rs j:=by
 unfold ah
 by_cases h:i=j
 ·subst h;simp [hi]
 ·simp [h]
theorem fenF_idem (f e:Int):fenF (fenF f e) e=fenF f e:=by
 unfold fenF
 by_cases h:f=e - 1
 ·rw [if_pos h,if_neg (show ¬e=e - 1 by omega)]
 ·rw [if_neg h,if_neg h]
theorem foldR_get {up:List Bool} (e:Int):∀ (L:List Int) (rs:List Rep),GOK rs up→(∀ x ∈ L,∃ m:Nat,m<3∧x=m)→∀ i:Nat,i<3→ah (xh e rs L) i=if (i:Int) ∈ L then fenR e (ah rs i) else ah rs i
 | [],rs,_,_,i,_=>by simp [xh]
 | x :: L,rs,h,hL,i,hi=>by
   obtain ⟨m,hm,rfl⟩:=hL x List.mem_cons_self
   have ih:=foldR_get e L (updR e rs m) (updR_ok h e m) (fun y hy=>hL y (List.mem_cons_of_mem _ hy)) i hi
   have hml:m<rs.length:=by rw [h.len];exact hm
   show ah (xh e (updR e rs m) L) i=_
   rw [ih]
   have hu:ah (updR e rs m) i=if m=i then fenR e (ah rs m) else ah rs i:=by
    unfold updR
    rw [show ((m:Int)).toNat=m from rfl,abr hml];rfl
   rw [hu]
   by_cases h1:m=i
   ·subst h1
    rw [if_pos (rfl:m=m),if_pos (show (m:Int) ∈ (m:Int) :: L from List.mem_cons_self)]
    split
    ·show Rep.mk (fenF (fenF (ah rs m).f e) e) _=Rep.mk (fenF (ah rs m).f e) _;rw [fenF_idem];rfl
    ·rfl
   ·rw [if_neg h1]
    have:((i:Int) ∈ (m:Int) :: L)↔(i:Int) ∈ L:=by
     rw [List.mem_cons];constructor
     ·rintro (h2|h2)
      ·exact absurd (by omega:m=i) h1
      ·exact h2
     ·exact Or.inr
    simp only [this]
theorem abq {rs:List Rep} {up:List Bool} (h:GOK rs up) (e:Int) (i:Nat) (hi:i<3):ah (d9 rs up e) i=if 2≤(cz rs up (e - 1) 3).length∧takes rs up (e - 1) i=true then ⟨e,(ah rs i).l⟩ else ah rs i:=by
 unfold d9
 by_cases h2:2≤(cz rs up (e - 1) 3).length
 ·rw [if_pos h2,foldR_get e _ rs h (za rs up (e - 1) 3) i hi]
  have hm:=mem_iff rs up (e - 1) 3 i
  by_cases ht:takes rs up (e - 1) i=true
  ·rw [if_pos (hm.2 ⟨hi,ht⟩),if_pos ⟨h2,ht⟩]
   unfold fenR fenF
   rw [if_pos (abf ht)]
  ·rw [if_neg (fun h=>ht (hm.1 h).2),if_neg (fun h=>ht h.2)]
 ·rw [if_neg h2,if_neg (fun h=>h2 h.1)]
theorem spread_get {up:List Bool} (k:Nat) (c:Cel):∀ (L:List Int) (rs:List Rep),GOK rs up→(∀ x ∈ L,∃ m:Nat,m<3∧x=m)→∀ i:Nat,i<3→ah (spread k c rs L) i=if (i:Int) ∈ L then ⟨(ah rs i).f,(ah rs i).l.set k c⟩ else ah rs i
 | [],rs,_,_,i,_=>by simp [spread]
 | x :: L,rs,h,hL,i,hi=>by
   obtain ⟨m,hm,rfl⟩:=hL x List.mem_cons_self
   have ih:=spread_get k c L (laidR k c rs m) (laidR_ok h k c m) (fun y hy=>hL y (List.mem_cons_of_mem _ hy)) i hi
   have hml:m<rs.length:=by rw [h.len];exact hm
   show ah (spread k c (laidR k c rs m) L) i=_
   rw [ih]
   have hu:ah (laidR k c rs m) i=if m=i then ⟨(ah rs m).f,(ah rs m).l.set k c⟩ else ah rs i:=by
    unfold laidR
    rw [show ((m:Int)).toNat=m from rfl,abr hml]
   rw [hu]
   by_cases h1:m=i
   ·subst h1
    rw [if_pos (rfl:m=m),if_pos (show (m:Int) ∈ (m:Int) :: L from List.mem_cons_self)]
    split
    ·simp only [List.set_set]
    ·rfl
   ·rw [if_neg h1]
    have:((i:Int) ∈ (m:Int) :: L)↔(i:Int) ∈ L:=by
     rw [List.mem_cons];constructor
     ·rintro (h2|h2)
      ·exact absurd (by omega:m=i) h1
      ·exact h2
     ·exact Or.inr
    simp only [this]
theorem aaa {rs:List Rep} {up:List Bool} (h:GOK rs up) (i:Nat) (hi:i<3):fo (ah rs i).l:=by
 have hml:i<rs.length:=by rw [h.len];exact hi
 rw [aao hml];exact h.ok _ (List.getElem_mem hml)
theorem adi {rs:List Rep} {up:List Bool} (h:GOK rs up) (e:Int) (m:Nat) (hm:m<3) (i:Nat) (_hi:i<3):ah (kz rs up e m) i=if qz rs up e m=true∧m=i then ⟨e,mrg ((cz rs up e 3).map (ah rs))⟩ else ah rs i:=by
 have hml:m<rs.length:=by rw [h.len];exact hm
 unfold kz
 by_cases h1:qz rs up e m=true
 ·rw [if_pos h1,show ((m:Int)).toNat=m from rfl,abr hml]
  by_cases h2:m=i
  ·rw [if_pos h2,if_pos ⟨h1,h2⟩]
  ·rw [if_neg h2,if_neg (fun h=>h2 h.2)]
 ·rw [if_neg h1,if_neg (fun h=>h1 h.1)]
theorem sync_most {rs:List Rep} {up:List Bool} {e i:Int} (h:qz rs up e i=true):2≤(cz rs up e 3).length:=by
 unfold qz at h
 simp only [Bool.and_eq_true,decide_eq_true_eq] at h
 exact h.2.1
theorem delG_get {rs:List Rep} {up:List Bool} (h:GOK rs up) (m k:Nat) (hm:m<3) (c:Cel) (i:Nat) (hk:k<8) (hi:i<3) :
 (ah (ny rs up m k c) i).f=(ah rs i).f∧(ck k (ah (ny rs up m k c) i)=ck k (ah rs i)∨(ck k (ah (ny rs up m k c) i)=c∧m=i))∧(∀ j,j≠k→ck j (ah (ny rs up m k c) i)=ck j (ah rs i)):=by
 have hml:m<rs.length:=by rw [h.len];exact hm
 unfold ny
 split
 ·rw [show ((m:Int)).toNat=m from rfl,abr hml]
  by_cases h2:m=i
  ·subst h2
   rw [if_pos rfl]
   have hl:k<(ah rs m).l.length:=by rw [(aaa h m hm).len];exact hk
   refine ⟨rfl,?_,fun j hj=>?_⟩
   ·unfold ck
    show (ib (ah rs m).f (ah rs m).l k c).getD k zc=_∨(ib (ah rs m).f (ah rs m).l k c).getD k zc=c∧m=m
    rw [admL_is hl,aaw hl]
    unfold adm1
    have hg:(ah rs m).l.getD k zc=(ah rs m).l[k]:=by simp [hl]
    split
    ·split
     ·exact .inr ⟨rfl,rfl⟩
     ·exact .inl hg.symm
    ·exact .inl hg.symm
   ·unfold ck
    show (ib (ah rs m).f (ah rs m).l k c).getD j zc=_
    rw [admL_is hl,getD_set_ne hj]
  ·rw [if_neg h2]
   exact ⟨rfl,.inl rfl,fun _ _=>rfl⟩
 ·exact ⟨rfl,.inl rfl,fun _ _=>rfl⟩
end Go.Proofs.YtpkhdihoijkamaaGreatDoor.G
namespace Go.Proofs.YtpkhdihoijkamaaGreatDoor.G
set_option maxRecDepth 100000
open Go.Proofs.YtpkhdihoijkamaaGreatDoor.D
open Go.ChangeShapes Go.WideShapes Go.ChangeAt Go.RowKit Go.Deep
theorem CS_fen {rs:List Rep} {up:List Bool} (h:GOK rs up) {e:Int} {k:Nat} {c:Cel} (hc:CS (d9 rs up e) k c):CS rs k c:=by
 rcases hc with hc|⟨i,hi,hc⟩
 ·exact .inl hc
 ·refine .inr ⟨i,hi,?_⟩
  rw [hc,abq h e i hi]
  split <;> rfl
theorem CS_best (rs:List Rep) (up:List Bool) (e:Int) (k:Nat):CS rs k (bestM rs up e k):=by
 rcases bestM_in rs up e k with h|⟨i,hi,_,h⟩
 ·exact .inl h
 ·exact .inr ⟨i,hi,h⟩
theorem ck_sync {rs:List Rep} {up:List Bool} {e:Int} {k:Nat} (hk:k<8):ck k ⟨e,mrg ((cz rs up e 3).map (ah rs))⟩=bestM rs up e k:=by
 unfold ck;exact mrg_get k hk _
theorem CS_sync {rs:List Rep} {up:List Bool} (h:GOK rs up) {e:Int} {m k:Nat} (hm:m<3) (hk:k<8) {c:Cel} (hc:CS (kz rs up e m) k c):CS rs k c:=by
 rcases hc with hc|⟨i,hi,hc⟩
 ·exact .inl hc
 ·rw [adi h e m hm i hi] at hc
  split at hc
  ·rw [ck_sync hk] at hc
   rw [hc];exact CS_best rs up e k
  ·exact .inr ⟨i,hi,hc⟩
theorem CS_del {rs:List Rep} {up:List Bool} (h:GOK rs up) {m k j:Nat} (hm:m<3) (hk:k<8) {c d:Cel} (hd:CS (ny rs up m k c) j d):CS rs j d∨(j=k∧d=c):=by
 rcases hd with hd|⟨i,hi,hd⟩
 ·exact .inl (.inl hd)
 ·have hg:=delG_get h m k hm c i hk hi
  by_cases hj:j=k
  ·subst hj
   rcases hg.2.1 with h1|⟨h1,_⟩
   ·exact .inl (.inr ⟨i,hi,by rw [hd,h1]⟩)
   ·exact .inr ⟨rfl,by rw [hd,h1]⟩
  ·exact .inl (.inr ⟨i,hi,by rw [hd,hg.2.2 j hj]⟩)
theorem fenG_floor {rs:List Rep} {up:List Bool} (h:GOK rs up) {e:Int} (hf:∀ i:Nat,i<3→(ah rs i).f≤e) (i:Nat) (hi:i<3):(ah (d9 rs up (e+1)) i).f≤e+1:=by
 rw [abq h (e+1) i hi]
 split
 ·exact Int.le_refl _
 ·have:=hf i hi;omega
theorem readG_ok {rs:List Rep} {up:List Bool} (h:GOK rs up) (e:Int) (k:Nat):GOK (kg rs up e k) up:=by
 unfold kg;split
 ·exact spread_ok _ _ _ _ h
 ·exact h
end Go.Proofs.YtpkhdihoijkamaaGreatDoor.G
