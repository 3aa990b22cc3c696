/- Several texts of this seat in one: URiseM. No statement of the seat is proved here. -/
import Derived.Test.YtpkhdihoijkamaaGreatDoorZA40
namespace Go.Proofs.YtpkhdihoijkamaaGreatDoor.U
open Go.ChangeShapes Go.WideShapes Go.ChangeAt Go.RowKit Go.Deep Go.Maps
open Go.Proofs.YtpkhdihoijkamaaGreatDoor.D
theorem All.av {M:TM} (h:All M) (c:CmD):All (av M c).2 :=
 ⟨h.si.ask h.gi.ok c,h.gi.steps (gs_ask h.si h.gi.ok c),h.bi.ask c,h.ci.steps (gs_ask h.si h.gi.ok c) h.gi⟩
theorem All.askN:∀ (n:Nat) {M:TM},All M→∀ c:CmD,All (askN n M c).2∧Steps (fun _=>True) M.gs (askN n M c).2.gs
 | 0,_,h,_=>⟨h,.refl _⟩
 | n+1,M,h,c=>by
   have h1:=h.av c
   have s1:=gs_ask h.si h.gi.ok c
   unfold Go.Proofs.YtpkhdihoijkamaaGreatDoor.U.askN
   split
   ·exact ⟨h1,s1⟩
   ·have:=All.askN n h1 c
    exact ⟨this.1,s1.trans this.2⟩
theorem All.au {M:TM} (h:All M) {N:Nat} (hI:TI M N) (c:CmD):All (au M c).2∧Steps (fun _=>True) M.gs (au M c).2.gs:=by
 have:=All.askN 6 h c
 rw [ask6 hI h.bi c] at this
 exact this
theorem mute_TI {M:TM} {N:Nat} (h:TI M N) (c:CmD):TI (mute M c) N :=
 h.box (fun j hj=>by
  show (upd M.L c.j [] j).length≤5
  unfold upd;split
  ·decide
  ·exact h.bl j hj)
theorem TI.askR7 {M:TM} {N:Nat} (h:TI M N) {c:CmD} (h7:c.op=7):TI (au M c).2 N:=by
 unfold au
 split
 ·unfold kr;rw [if_pos h7];exact (mute_TI h c).read c
 ·exact h
theorem TI.au {M:TM} {N:Nat} (h:TI M N) (hW:Tidy M.W) (c:CmD):TI (au M c).2 (N+1):=by
 unfold Go.Proofs.YtpkhdihoijkamaaGreatDoor.U.au
 split
 ·rename_i hc
  have h1:=mute_TI h c
  unfold kr
  split
  ·exact (h1.read c).mono (Nat.le_succ _)
  ·split
   ·exact h1.write hW c hc
   ·split
    ·exact h1.compare hW c hc
    ·exact (h1.change c).mono (Nat.le_succ _)
 ·exact h.mono (Nat.le_succ _)
theorem read_says {M:TM} {c:CmD} (hA:All M) (h7:c.op=7) (h0:(au M c).1.f=0) :
 c.at'.toNat<8∧(au M c).1.data=(fu (au M c).2 c.at'.toNat).d∧jr (au M c).2=true∧RJ2 (au M c).2.gs c.at'.toNat (fu (au M c).2 c.at'.toNat) ∧
  ∀ sc,RJ2 M.gs c.at'.toNat sc→G.di sc (fu (au M c).2 c.at'.toNat)=false:=by
 by_cases hc:c.f=0
 case neg =>
  unfold au at h0
  rw [if_neg hc] at h0
  exact absurd h0 hc
 have hk:=cmd_at hc
 have hk8:c.at'.toNat<8:=by omega
 refine ⟨hk8,?_⟩
 have hR:au M c=(⟨(j4 (mute M c) c).1,0,0,(j4 (mute M c) c).2.1⟩,(j4 (mute M c) c).2.2):=by
  unfold au kr
  rw [if_pos hc,if_pos h7]
 rw [hR] at h0 ⊢
 have gi:GI (mute M c).gs:=hA.gi
 have ci:CI (fun _ _=>False) (mute M c).gs:=hA.ci
 have hgs:(mute M c).gs=M.gs:=rfl
 rw [←hgs]
 generalize mute M c=N at *
 have h0':(j4 N c).2.1=0:=h0
 show (j4 N c).1=(fu (j4 N c).2.2 c.at'.toNat).d∧jr (j4 N c).2.2=true∧RJ2 (j4 N c).2.2.gs c.at'.toNat (fu (j4 N c).2.2 c.at'.toNat)∧∀ sc,RJ2 N.gs c.at'.toNat sc→G.di sc (fu (j4 N c).2.2 c.at'.toNat)=false
 have hrm:j4 N c=if ji N c=0 then (if gotB N=true then ((gotC N c.at'.toNat).d,0,gotM N c.at'.toNat) else (ll,7,N)) else (ll,ji N c,N):=by unfold j4;rw [allowM_self gi]
 rw [hrm] at h0' ⊢
 by_cases ha:ji N c=0
 ·rw [if_pos ha] at h0' ⊢
  by_cases hg:gotB N=true
  ·rw [if_pos hg]
   have hn:=newest_read (M:=N) (M':=gotM N c.at'.toNat) hk8 gi ci hg rfl rfl rfl
   refine ⟨by show _=(fu (gotM N c.at'.toNat) c.at'.toNat).d;rw [hn.1],hn.2,?_,fun sc hs=>?_⟩
   ·show RJ2 (gotM N c.at'.toNat).gs c.at'.toNat (fu (gotM N c.at'.toNat) c.at'.toNat)
    rw [hn.1]
    exact RJ2.read gi hk8 hg
   ·show G.di sc (fu (gotM N c.at'.toNat) c.at'.toNat)=false
    rw [hn.1]
    show G.di sc (G.ru N.rs N.up N.e c.at'.toNat)=false
    rw [G.readC_is N.rs N.up N.e c.at'.toNat hk8 hg]
    exact hs.best N.up (of_decide_eq_true hg)
  ·rw [if_neg hg] at h0'
   exact absurd (show (7:Int)=0 from h0') (by decide)
 ·rw [if_neg ha] at h0'
  exact absurd (show ji N c=0 from h0') ha
theorem RJ2.zc {g:GS} {X:Nat→G.Cel→Prop} (h:CI X g) {k:Nat} (hk:k<8):RJ2 g k G.zc:=by
 intro i j hij hj _ _
 left
 rcases h.zc hk (c:=G.ck k (G.ah g.rs i)) (.inl (.inr ⟨i,by omega,rfl⟩)) with h1|h1
 ·rw [h1];exact G.xw _
 ·exact G.adf h1
theorem putCelM {c d:G.Cel} {Z:World} {b:Nat} {T:TypeId} (A:G.At Z b c.vs T):∃ Z2,(Instr.storeAt 44 (.pointer (some ⟨b,0,.none⟩)) (.agg #[.int .i64 d.e,.int .i64 d.n,.string d.d])).run Tryz.prog Z=.ok () Z2∧G.At Z2 b d.vs T∧ae (Is b) (Is b) Z Z2:=by
 have A2:=G.At.set d.vs 0 _ _ A
 rw [G.ik _ _ (by rfl)] at A2
 exact ⟨_,G.aax (o:=0) d A (by simp [G.Cel.vs]),A2,ae.sets (show Is b b from rfl) _ _ _ (ae.refl _ _)⟩
end Go.Proofs.YtpkhdihoijkamaaGreatDoor.U
