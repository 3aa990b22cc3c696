/- Several texts of this seat in one: UOut. No statement of the seat is proved here. -/
import Derived.Test.YtpkhdihoijkamaaGreatDoorZA29
set_option maxHeartbeats 4000000
set_option maxRecDepth 100000
namespace Go.Proofs.YtpkhdihoijkamaaGreatDoor.U
open Go.ChangeShapes Go.WideShapes Go.ChangeAt Go.RowKit Go.Deep Go.Maps
open Go.Proofs.YtpkhdihoijkamaaGreatDoor.D
theorem cloneM_any (a:Option Addr) (n c:Nat) (l:List ed) (w:World) (ho:ek 116 6 w (.slice a n c) n (gu l)) (hl:l.length=n) (hn:n≤100000) :
 Calls Tryz.prog 55 #[.slice a n c] w fun e w'=>∃ v',e=.returned v'∧ek 116 6 w' v' n (gu l)∧(∀ q,ObX v' q→w.heap.size≤q)∧Below w.heap.size w w':=by
 have q22:∀ (w:World) (a:Option Addr) (n c n' c':Nat),(binOp .eql 53 (.slice a n c) (.slice .none n' c')).run Tryz.prog w=.ok (.bool a.isNone) w:=fun w a n c n' c'=>Lib.run_eql_slice_nil w _ _ a n c n' c' Tryz.underlying53
 cases a with
 | none =>
   have hn0:n=0:=by
    rcases ho.2 with ⟨e,h0⟩|⟨g,cap,cur,e,_⟩
    ·exact h0
    ·cases e
   subst hn0
   obtain rfl:l=[]:=List.eq_nil_of_length_eq_zero hl
   go_enter Tryz.func55,Tryz.ntmps55
   go_wp2
   go_ret
   exact ⟨.slice .none 0 0,rfl,ek.nil _ _ _,fun q h=>absurd h (ObX.nil q),Below.refl _ _⟩
 | some ad =>
   obtain ⟨i0,hi,hz0,hz1,hz2⟩:=zero_ms
   have HO:Hid (ek 116 6 w (.slice (some ad) n c) n (gu l)):=ho
   clear ho
   go_enter Tryz.func55,Tryz.ntmps55
   go_wp2_with (at_builtin;refine wpList_append_own _ rfl _ _ 53 rfl w.heap.size 116 i0 _ 6 56 Tryz.underlying53 hi hz0 hz1 hz2 rfl (by decide) _ _ _ rfl (World.ownsRow_made w #[] 0 (Nat.le_refl _) (Nat.zero_le _) (by simp)) ad n c (gu l) rfl ?qc1 ?qc2 ?qc3 ?qc4 ?qc5 ?qc6 ?_)
   case qc1=>rw [msgs_len,hl]
   case qc2 =>
    intro j u hj
    have hlt:j<n*6:=by rw [←hl,←msgs_len];exact (List.getElem?_eq_some_iff.1 hj).1
    obtain ⟨g,e,hc⟩:=HO.out.cell hlt
    simp only [Option.some.injEq] at e
    subst e
    rw [Addr.add_lit]
    refine Lib.cell?_alloc_some _ ?_
    rw [show (0+j)=j by omega,hc];exact hj
   case qc3=>exact msgs_one l
   case qc4=>rw [Nat.zero_add];simp [maxLen];omega
   case qc5=>rw [Nat.zero_add];omega
   case qc6=>simp
   intro v' w1 hown hgrow hnil
   go_wp2
   go_ret
   have hown':w1.ownsRow w.heap.size 116 6 v' n (gu l):=by simpa using hown
   refine ⟨v',rfl,?_,?_,((Below.refl _ w).alloc (Nat.le_refl _) _).grown hgrow (by simp) (by intro k hk;simp [Value.ownBlock] at hk;omega)⟩
   ·refine ⟨hown'.1,?_⟩
    rcases hown'.2 with h0|⟨g,cap,cur,e,_,h2⟩
    ·exact .inl h0
    ·exact .inr ⟨g,cap,cur,e,Nat.zero_le _,h2⟩
   ·intro q hq
    rcases hown'.2 with ⟨e,_⟩|⟨g,cap,cur,e,hb,_⟩
    ·rw [e] at hq;exact absurd hq (ObX.nil q)
    ·rw [e] at hq
     have:g=q:=by simpa [ObX,Value.ownBlock] using hq
     omega
theorem aaj {w0 w:World} {t:Nat} {M:TM} {p:TP} (h:aa w0 w t M p) (hn:M.fly.length≤100000) :
 Calls Tryz.prog 24 #[.pointer (some ⟨t,0,.none⟩)] w fun r w'=>∃ v',r=.returned v'∧ek 116 6 w' v' M.fly.length (gu M.fly)∧(∀ q,ObX v' q→w.heap.size≤q)∧Below w.heap.size w w':=by
 obtain ⟨a,c,hfv⟩:=h.fvIs
 obtain ⟨n,hnl⟩:∃ n,M.fly.length=n:=⟨_,rfl⟩
 have c83:w.cell? ⟨t,83,.none⟩=some (.slice a n c):=by have:=h.cells.2.1;rw [hfv,hnl] at this;exact this
 have HC:Hid (Calls Tryz.prog 55 #[.slice a n c] w fun e w'=>∃ v',e=.returned v'∧ek 116 6 w' v' n (gu M.fly)∧(∀ q,ObX v' q→w.heap.size≤q)∧Below w.heap.size w w') :=
  cloneM_any a n c M.fly w (by have:=h.fl;rw [hfv,hnl] at this;exact this) hnl (by omega)
 rw [hnl]
 clear h hfv hnl hn
 go_enter Tryz.func24,Tryz.ntmps24
 go_wp2_with fail
 refine HC.out.mono ?_
 rintro r W ⟨v',rfl,h1,h2,h3⟩
 have HR:Hid (ek 116 6 W v' n (gu M.fly)∧(∀ q,ObX v' q→w.heap.size≤q)∧Below w.heap.size w W):=⟨h1,h2,h3⟩
 clear h1 h2 h3
 go_wp2
 go_ret
 exact ⟨v',rfl,HR.out.1,HR.out.2.1,HR.out.2.2⟩
end Go.Proofs.YtpkhdihoijkamaaGreatDoor.U
