/- Several texts of this seat in one: SFault, Check, RParse, TGMath, RMath, SameS, EBase, EText. No statement of the seat is proved here. -/
import Derived.Test.YtpkhdihoijkamaaGreatDoorWT
import Derived.Test.YtpkhdihoijkamaaGreatDoorZA09
import Derived.Test.YtpkhdihoijkamaaGreatDoorZA10
import Derived.Test.YtpkhdihoijkamaaGreatDoorZA06
import Derived.Laws.StructEq
set_option maxHeartbeats 8000000
set_option maxRecDepth 100000
namespace Go.Proofs.YtpkhdihoijkamaaGreatDoor
open Go.ChangeShapes Go.WideShapes Go.ChangeAt Go.RowKit
def ahead (l:List (Int × Int)) (k:Nat):Int:=if k=0 then 0 else (l[k - 1]?.getD (0,0)).1
theorem ahead_succ (l:List (Int × Int)) (k:Nat) (h:k<l.length):ahead l (k+1)=l[k].1:=by simp [ahead,h]
theorem rf_step (l:List (Int × Int)) (k:Nat) (h:k<l.length):rf (ahead l k) (l.drop k) =
 if l[k].1<1∨4<l[k].1∨l[k].2<1∨999<l[k].2 then 1 else if l[k].1≤ahead l k then 2 else rf (ahead l (k+1)) (l.drop (k+1)):=by
 rw [List.drop_eq_getElem_cons h,rf,ahead_succ l k h]
theorem bounds5 (x y:Int):x<1∨(¬x<1∧4<x)∨(¬x<1∧¬4<x∧y<1)∨(¬x<1∧¬4<x∧¬y<1∧999<y)∨(¬x<1∧¬4<x∧¬y<1∧¬999<y):=by omega
def ai (f:Int):Value:=if f=0 then .nilIface else .iface 96 (.int .i64 f)
theorem yc (t:Int) (w:World):Calls Tryz.prog 85 #[.int .i64 t] w fun e w'=>e=.returned (.bool (ky t))∧w'=w:=by
 rcases kinds8 t with rfl|rfl|rfl|rfl|rfl|rfl|rfl|⟨k0,k1,k3,k5,k6,k7,k8⟩
 case inr.inr.inr.inr.inr.inr.inr =>
  have HF:Hid (ky t=false):=by show _=_;simp [ky,k1,k3,k5,k6,k7,k8]
  go_enter Tryz.func85,Tryz.ntmps85
  go_wp2
  go_ret
  exact ⟨fq HF.out.symm,rfl⟩
 all_goals
  go_enter Tryz.func85,Tryz.ntmps85
  go_wp2
  go_ret
  exact ⟨rfl,rfl⟩
def vg (t h:Int) (l:List (Int × Int)):Bool:=tf t h l == 0
theorem heldB_0 (h:Int) (l:List (Int × Int)):vg 0 h l=(h == 0):=by
 by_cases h0:h=0 <;> simp [vg,tf,h0]
theorem heldB_no {t:Int} (h:Int) (l:List (Int × Int)) (k0:(t == 0)=false) (ty:ky t=false):vg t h l=false:=by
 simp only [beq_eq_false_iff_ne] at k0;simp [vg,tf,k0,ty]
theorem acl {t:Int} (h:Int) (l:List (Int × Int)) (ht:t=7∨t=8):vg t h l=(h == 0 && decide (0<l.length)):=by
 rcases ht with rfl|rfl <;> by_cases h0:h=0 <;> by_cases hl:l.length=0 <;> simp_all [vg,tf,ky] <;> (cases l <;> simp_all)
theorem acv {t:Int} (h:Int) (l:List (Int × Int)) (ht:t=1∨t=3∨t=5∨t=6):vg t h l=(keyOf l h != 0):=by
 rcases ht with rfl|rfl|rfl|rfl <;> by_cases h0:keyOf l h=0 <;> simp [vg,tf,ky,h0]
theorem held_any (g t h:Int) (a:Option Addr) (n c:Nat) (y:Bool) (l:List (Int × Int)) (w:World) (hr:Row w a n l) :
 Calls Tryz.prog 162 #[.agg #[.int .i64 g,.slice a n c,.int .i64 t,.int .i64 h,.bool y]] w fun e w'=>e=.returned (.bool (vg t h l))∧Below w.heap.size w w':=by
 rcases kinds8 t with rfl|k|k|k|k|k|k|⟨k0,k1,k3,k5,k6,k7,k8⟩
 case inl =>
  have HF:Hid _:=heldB_0 h l
  go_enter Tryz.func162,Tryz.ntmps162
  go_wp2
  go_ret
  exact ⟨fq HF.out.symm,(Below.refl _ _).alloc (Nat.le_refl _) _⟩
 case inr.inr.inr.inr.inr.inr.inr =>
  have ty:ky t=false:=by simp [ky,k1,k3,k5,k6,k7,k8]
  have HF:Hid _:=heldB_no h l k0 ty
  go_enter Tryz.func162,Tryz.ntmps162
  go_wp2_with (go_at_call 85;refine (yc t _).mono ?_;rintro e w1 ⟨rfl,rfl⟩)
  go_ret
  exact ⟨fq HF.out.symm,(Below.refl _ _).alloc (Nat.le_refl _) _⟩
 case inr.inl =>
  subst k
  have ty:ky 1=true:=rfl
  have al:l6 1=false:=rfl
  have k0:((1:Int) == 0)=false:=rfl
  have HF:Hid _:=acv (t:=1) h l (by decide)
  go_enter Tryz.func162,Tryz.ntmps162
  go_wp2_with (first
   |(go_at_call 85;refine (yc 1 _).mono ?_;rintro e w1 ⟨rfl,rfl⟩)
   |(go_at_call 87;refine (xz g 1 h a n c y _).mono ?_;rintro e w1 ⟨rfl,hb1⟩;obtain ⟨c0,c1,c2,c3,c4⟩:=box5 hb1)
   |(go_at_call 42;refine (xq g 1 h a n c y l h _ (by exact hr.later (oh hb1))).mono ?_;rintro e w2 ⟨rfl,hb2⟩))
  go_ret
  exact ⟨fq HF.out.symm,(oh hb1).trans (hb2.mono (oh hb1).size)⟩
 case inr.inr.inl =>
  subst k
  have ty:ky 3=true:=rfl
  have al:l6 3=false:=rfl
  have k0:((3:Int) == 0)=false:=rfl
  have HF:Hid _:=acv (t:=3) h l (by decide)
  go_enter Tryz.func162,Tryz.ntmps162
  go_wp2_with (first
   |(go_at_call 85;refine (yc 3 _).mono ?_;rintro e w1 ⟨rfl,rfl⟩)
   |(go_at_call 87;refine (xz g 3 h a n c y _).mono ?_;rintro e w1 ⟨rfl,hb1⟩;obtain ⟨c0,c1,c2,c3,c4⟩:=box5 hb1)
   |(go_at_call 42;refine (xq g 3 h a n c y l h _ (by exact hr.later (oh hb1))).mono ?_;rintro e w2 ⟨rfl,hb2⟩))
  go_ret
  exact ⟨fq HF.out.symm,(oh hb1).trans (hb2.mono (oh hb1).size)⟩
 case inr.inr.inr.inl =>
  subst k
  have ty:ky 5=true:=rfl
  have al:l6 5=false:=rfl
  have k0:((5:Int) == 0)=false:=rfl
  have HF:Hid _:=acv (t:=5) h l (by decide)
  go_enter Tryz.func162,Tryz.ntmps162
  go_wp2_with (first
   |(go_at_call 85;refine (yc 5 _).mono ?_;rintro e w1 ⟨rfl,rfl⟩)
   |(go_at_call 87;refine (xz g 5 h a n c y _).mono ?_;rintro e w1 ⟨rfl,hb1⟩;obtain ⟨c0,c1,c2,c3,c4⟩:=box5 hb1)
   |(go_at_call 42;refine (xq g 5 h a n c y l h _ (by exact hr.later (oh hb1))).mono ?_;rintro e w2 ⟨rfl,hb2⟩))
  go_ret
  exact ⟨fq HF.out.symm,(oh hb1).trans (hb2.mono (oh hb1).size)⟩
 case inr.inr.inr.inr.inl =>
  subst k
  have ty:ky 6=true:=rfl
  have al:l6 6=false:=rfl
  have k0:((6:Int) == 0)=false:=rfl
  have HF:Hid _:=acv (t:=6) h l (by decide)
  go_enter Tryz.func162,Tryz.ntmps162
  go_wp2_with (first
   |(go_at_call 85;refine (yc 6 _).mono ?_;rintro e w1 ⟨rfl,rfl⟩)
   |(go_at_call 87;refine (xz g 6 h a n c y _).mono ?_;rintro e w1 ⟨rfl,hb1⟩;obtain ⟨c0,c1,c2,c3,c4⟩:=box5 hb1)
   |(go_at_call 42;refine (xq g 6 h a n c y l h _ (by exact hr.later (oh hb1))).mono ?_;rintro e w2 ⟨rfl,hb2⟩))
  go_ret
  exact ⟨fq HF.out.symm,(oh hb1).trans (hb2.mono (oh hb1).size)⟩
 case inr.inr.inr.inr.inr.inl =>
  subst k
  have ty:ky 7=true:=rfl
  have al:l6 7=true:=rfl
  have k0:((7:Int) == 0)=false:=rfl
  have hl:=hr.1
  by_cases h0:(h == 0)=true
  ·have HF:Hid (vg 7 h l=decide (0<l.length)):=by show _=_;rw [acl h l (by decide),h0];rfl
   go_enter Tryz.func162,Tryz.ntmps162
   go_wp2_with (first
    |(go_at_call 85;refine (yc 7 _).mono ?_;rintro e w1 ⟨rfl,rfl⟩)
    |(go_at_call 87;refine (xz g 7 h a n c y _).mono ?_;rintro e w1 ⟨rfl,hb1⟩;obtain ⟨c0,c1,c2,c3,c4⟩:=box5 hb1))
   go_ret
   exact ⟨fq (by rw [HF.out,decide_eq_decide];omega),oh hb1⟩
  ·have h0':(h == 0)=false:=by simpa using h0
   have HF:Hid (vg 7 h l=false):=by show _=_;rw [acl h l (by decide),h0'];rfl
   clear h0
   go_enter Tryz.func162,Tryz.ntmps162
   go_wp2_with (first
    |(go_at_call 85;refine (yc 7 _).mono ?_;rintro e w1 ⟨rfl,rfl⟩)
    |(go_at_call 87;refine (xz g 7 h a n c y _).mono ?_;rintro e w1 ⟨rfl,hb1⟩;obtain ⟨c0,c1,c2,c3,c4⟩:=box5 hb1))
   go_ret
   exact ⟨fq HF.out.symm,oh hb1⟩
 case inr.inr.inr.inr.inr.inr.inl =>
  subst k
  have ty:ky 8=true:=rfl
  have al:l6 8=true:=rfl
  have k0:((8:Int) == 0)=false:=rfl
  have hl:=hr.1
  by_cases h0:(h == 0)=true
  ·have HF:Hid (vg 8 h l=decide (0<l.length)):=by show _=_;rw [acl h l (by decide),h0];rfl
   go_enter Tryz.func162,Tryz.ntmps162
   go_wp2_with (first
    |(go_at_call 85;refine (yc 8 _).mono ?_;rintro e w1 ⟨rfl,rfl⟩)
    |(go_at_call 87;refine (xz g 8 h a n c y _).mono ?_;rintro e w1 ⟨rfl,hb1⟩;obtain ⟨c0,c1,c2,c3,c4⟩:=box5 hb1))
   go_ret
   exact ⟨fq (by rw [HF.out,decide_eq_decide];omega),oh hb1⟩
  ·have h0':(h == 0)=false:=by simpa using h0
   have HF:Hid (vg 8 h l=false):=by show _=_;rw [acl h l (by decide),h0'];rfl
   clear h0
   go_enter Tryz.func162,Tryz.ntmps162
   go_wp2_with (first
    |(go_at_call 85;refine (yc 8 _).mono ?_;rintro e w1 ⟨rfl,rfl⟩)
    |(go_at_call 87;refine (xz g 8 h a n c y _).mono ?_;rintro e w1 ⟨rfl,hb1⟩;obtain ⟨c0,c1,c2,c3,c4⟩:=box5 hb1))
   go_ret
   exact ⟨fq HF.out.symm,oh hb1⟩
theorem tf_02 (t h:Int) (l:List (Int × Int)):tf t h l=if vg t h l=true then 0 else 2:=by
 unfold vg tf
 repeat (split <;> try simp_all)
theorem aas (g t h:Int) (a:Option Addr) (n c:Nat) (y:Bool) (l:List (Int × Int)) (w:World) (hr:Row w a n l) :
 Calls Tryz.prog 126 #[.agg #[.int .i64 g,.slice a n c,.int .i64 t,.int .i64 h,.bool y]] w fun e w'=>e=.returned (ai (fault g t h l))∧Below w.heap.size w w':=by
 have ret_err:∀ {f f':Int} {v:Value},v=ai f'→f=f'→Ending.returned v=.returned (ai f):=by intro f f' v hv hf;rw [hf,hv]
 by_cases g0:g<0
 ·have HF:Hid (fault g t h l=1):=by show _=_;simp [fault,g0]
  go_enter Tryz.func126,Tryz.ntmps126
  go_wp2
  go_ret
  exact ⟨ret_err rfl HF.out,(Below.refl _ _).alloc (Nat.le_refl _) _⟩
 have g0':decide (g<0)=false:=by simpa using g0
 by_cases g1:1000000000<g
 ·have HF:Hid (fault g t h l=1):=by show _=_;simp [fault,g1]
  clear g0
  go_enter Tryz.func126,Tryz.ntmps126
  go_wp2
  go_ret
  exact ⟨ret_err rfl HF.out,(Below.refl _ _).alloc (Nat.le_refl _) _⟩
 have HF:Hid (fault g t h l=if rf 0 l=0 then tf t h l else rf 0 l):=by show _=_;simp [fault,g0,g1]
 have g1':decide (1000000000<g)=false:=by simpa using g1
 clear g0 g1
 have HE:Hid (∀ {f f':Int} {v:Value},v=ai f'→f=f'→Ending.returned v=.returned (ai f)):=ret_err
 clear ret_err
 obtain ⟨hl,hn,hrow⟩:=id hr
 go_enter Tryz.func126,Tryz.ntmps126
 go_wp2
 go_loopw [3,18] (fun u i wr=>∃ k:Nat,k≤n∧u=.int .i64 (ahead l k)∧i=.int .i64 k∧Below (w.alloc (.cells #[.int .i64 g,.slice a n c,.int .i64 t,.int .i64 h,.bool y] 36)).heap.size (w.alloc (.cells #[.int .i64 g,.slice a n c,.int .i64 t,.int .i64 h,.bool y] 36)) wr∧rf 0 l=rf (ahead l k) (l.drop k)) (fun _ i _=>n - (intOf i).toNat)
 case atStart=>exact ⟨0,Nat.zero_le _,rfl,rfl,Below.refl _ _,rfl⟩
 case round =>
  obtain ⟨k,hk,rfl,rfl,hb,hrf⟩:=hrel
  have HK:Hid (rf 0 l=rf (ahead l k) (l.drop k)):=hrf
  have hbw:=oh hb
  clear hrf
  by_cases hlt:k<n
  ·obtain ⟨b,off,rfl,hc⟩:=hrow (by omega)
   have hc0:=cell_later hbw (hc k (by omega)).1
   have hc1:=cell_later hbw (hc k (by omega)).2
   have HD:Hid _:=rf_step l k (by omega)
   have HA:Hid _:=ahead_succ l k (by omega)
   clear hc hrow hr
   rcases bounds5 l[k].1 l[k].2 with h1|⟨h1,h2⟩|⟨h1,h2,h3⟩|⟨h1,h2,h3,h4⟩|⟨h1,h2,h3,h4⟩
   case inl =>
    go_wp2
    go_ret
    exact ⟨HE.out (f':=1) rfl (by rw [HF.out,HK.out,HD.out,if_pos (Or.inl h1)] <;> rfl),hbw.alloc hbw.size _⟩
   case inr.inl =>
    have h1':decide (l[k].1<1)=false:=by simpa using h1
    go_wp2
    go_ret
    exact ⟨HE.out (f':=1) rfl (by rw [HF.out,HK.out,HD.out,if_pos (Or.inr (Or.inl h2))] <;> rfl),hbw.alloc hbw.size _⟩
   case inr.inr.inl =>
    have h1':decide (l[k].1<1)=false:=by simpa using h1
    have h2':decide (4<l[k].1)=false:=by simpa using h2
    go_wp2
    go_ret
    exact ⟨HE.out (f':=1) rfl (by rw [HF.out,HK.out,HD.out,if_pos (Or.inr (Or.inr (Or.inl h3)))] <;> rfl),hbw.alloc hbw.size _⟩
   case inr.inr.inr.inl =>
    have h1':decide (l[k].1<1)=false:=by simpa using h1
    have h2':decide (4<l[k].1)=false:=by simpa using h2
    have h3':decide (l[k].2<1)=false:=by simpa using h3
    go_wp2
    go_ret
    exact ⟨HE.out (f':=1) rfl (by rw [HF.out,HK.out,HD.out,if_pos (Or.inr (Or.inr (Or.inr h4)))] <;> rfl),hbw.alloc hbw.size _⟩
   have hno:¬(l[k].1<1∨4<l[k].1∨l[k].2<1∨999<l[k].2):=by omega
   have HN:Hid (rf 0 l=if l[k].1≤ahead l k then 2 else rf (ahead l (k+1)) (l.drop (k+1))):=by show _=_;rw [HK.out,HD.out,if_neg hno]
   have h1':decide (l[k].1<1)=false:=by simpa using h1
   have h2':decide (4<l[k].1)=false:=by simpa using h2
   have h3':decide (l[k].2<1)=false:=by simpa using h3
   have h4':decide (999<l[k].2)=false:=by simpa using h4
   clear hno
   by_cases hle:l[k].1≤ahead l k
   ·go_wp2
    go_ret
    exact ⟨HE.out (f':=2) rfl (by rw [HF.out,HN.out,if_pos hle] <;> rfl),hbw.alloc hbw.size _⟩
   ·have hle':decide (l[k].1≤ahead l k)=false:=by simpa using hle
    go_wp2
    go_roundw
    case rel=>exact ⟨k+1,by omega,by rw [HA.out],by go_num,hb.alloc hb.size _,by rw [HN.out,if_neg hle]⟩
    case measure=>simp [intOf];omega
  ·have HT:Hid (fault g t h l=tf t h l):=by show _=_;rw [HF.out,HK.out,List.drop_of_length_le (by omega)];rfl
   have hlt':decide ((k:Int)<(n:Int))=false:=by simp;omega
   obtain ⟨c0,c1,c2,c3,c4⟩:=box5 hb
   clear HF HK hrow
   by_cases hh:vg t h l=true
   ·go_wp2_with (go_at_call 162;refine (held_any g t h a n c y l _ (by exact hr.later hbw)).mono ?_;rintro e w1 ⟨rfl,hb1⟩)
    go_ret
    exact ⟨HE.out (f':=0) rfl (by rw [HT.out,tf_02,if_pos hh]),hbw.trans (hb1.mono hbw.size)⟩
   ·have hh':vg t h l=false:=by simpa using hh
    clear hh
    go_wp2_with (go_at_call 162;refine (held_any g t h a n c y l _ (by exact hr.later hbw)).mono ?_;rintro e w1 ⟨rfl,hb1⟩)
    go_ret
    exact ⟨HE.out (f':=2) rfl (by rw [HT.out,tf_02,if_neg (by simp [hh'])]),hbw.trans (hb1.mono hbw.size)⟩
end Go.Proofs.YtpkhdihoijkamaaGreatDoor
namespace Go.Proofs.YtpkhdihoijkamaaGreatDoor.K
open Go.ChangeShapes Go.WideShapes Go.ChangeAt Go.RowKit Go.Maps
theorem sok_of {g t hd:Int} {l:List (Int × Int)} (hf:Go.Proofs.YtpkhdihoijkamaaGreatDoor.fault g t hd l=0) (hl:l.length≤4):SOK g t hd l:=by
 obtain ⟨h1,h2⟩:=fault_rf hf
 have hg:0≤g∧g≤1000000000:=by unfold Go.Proofs.YtpkhdihoijkamaaGreatDoor.fault at hf;split at hf <;> omega
 have ht:=tf_type h2
 have hh:0≤hd∧hd≤4:=by
  unfold Go.Proofs.YtpkhdihoijkamaaGreatDoor.tf at h2
  split at h2
  ·split at h2 <;> omega
  ·split at h2
   ·omega
   ·split at h2
    ·split at h2 <;> omega
    ·split at h2
     ·omega
     ·rename_i hk
      rcases keyOf_or l hd with h0|⟨r,hr,e,_⟩
      ·exact absurd h0 hk
      ·have:=rf_all l 0 h1 r hr;omega
 exact ⟨hg.1,hg.2,by omega,by omega,hh.1,hh.2,hl,fun r hr=>by have:=rf_all l 0 h1 r hr;omega⟩
theorem Row.setCells {W:World} {a:Option Addr} {n b:Nat} {l:List (Int × Int)} (h:Go.Proofs.YtpkhdihoijkamaaGreatDoor.Row W a n l) (hb:∀ p,a=some p→b<p.block) (vs:List Value) (o:Nat):Go.Proofs.YtpkhdihoijkamaaGreatDoor.Row (W.setCells b o vs) a n l:=by
 refine ⟨h.1,h.2.1,fun hn=>?_⟩
 obtain ⟨b',off,ha,hc⟩:=h.2.2 hn
 have hlt:=hb _ ha
 refine ⟨b',off,ha,fun i hi=>?_⟩
 rw [World.cell?_setCells_out b vs o W _ (fun e=>by simp at e hlt;omega),World.cell?_setCells_out b vs o W _ (fun e=>by simp at e hlt;omega)]
 exact hc i hi
theorem errW_no {f:Int} (h:f≠0):Go.Proofs.YtpkhdihoijkamaaGreatDoor.ai f=.iface 96 (.int .i64 f):=by simp [Go.Proofs.YtpkhdihoijkamaaGreatDoor.ai,h]
theorem rparse_new (s:List UInt8) (w:World) (hL:Laid w) (hs:s.length≤1000000) (g t hd:Int) (y:Bool) (l:List (Int × Int)) (hg:Hid (numOf ⟨(nxW 0 s).toArray⟩=g)) (ht:Hid (numOf ⟨(nxW 1 s).toArray⟩=t)) (hh:Hid (numOf ⟨(nxW 2 s).toArray⟩=hd)) (hy:Hid ((nxW 3 s == (staysT true).toList)=y)) (hl:Hid (nz 4 s=l)) :
 Calls Tryz.prog 140 #[.string ⟨s.toArray⟩] w fun e w'=>((∃ a c,(Go.Proofs.YtpkhdihoijkamaaGreatDoor.fault g t hd l=0∧je g t hd y l=s)∧e=.returned (.tuple #[.agg #[.int .i64 g,.slice a l.length c,.int .i64 t,.int .i64 hd,.bool y],.nilIface])∧Go.Proofs.YtpkhdihoijkamaaGreatDoor.Row w' a l.length l∧∀ p,a=some p→w.heap.size≤p.block)∨(¬(Go.Proofs.YtpkhdihoijkamaaGreatDoor.fault g t hd l=0∧je g t hd y l=s)∧e=.returned (.tuple #[.agg #[.int .i64 0,.slice .none 0 0,.int .i64 0,.int .i64 0,.bool false],.iface 96 (.int .i64 3)])))∧Below w.heap.size w w':=by
 have one0:∀ v ∈ ([.int .i64 0,.slice .none 0 0,.int .i64 0,.int .i64 0,.bool false]:List Value),v.oneCell'=true:=by intro v hv;simp at hv;rcases hv with rfl|rfl|rfl|rfl|rfl <;> rfl
 have HL4:Hid (l.length≤4):=by rw [←hl.out];exact regsG_len 4 s
 obtain ⟨X,hX⟩:∃ X,X=w.alloc (.cells #[.int .i64 0,.slice .none 0 0,.int .i64 0,.int .i64 0,.bool false] 36):=⟨_,rfl⟩
 have A2:At X w.heap.size [.int .i64 0,.slice .none 0 0,.int .i64 0,.int .i64 0,.bool false] 36:=by rw [hX];exact heap_alloc_new w _
 have bX:Below w.heap.size w X:=by rw [hX];exact (Below.refl _ _).alloc (Nat.le_refl _) _
 go_enter Tryz.func140,Tryz.ntmps140
 go_wp2_with fail
 rw [←hX]
 clear hX
 refine (rguess_aux s X (hL.later bX) hs g t hd y hg ht hh hy).mono ?_
 rw [hl.out]
 rintro e W1 ⟨a,c,rfl,hrow,hfar,hb1⟩
 have HFA:Hid (∀ p,a=some p→w.heap.size<p.block):=fun p hp=>by have:=hfar p hp;have:=A2.lt;omega
 clear hfar
 replace A2:=A2.later hb1 A2.lt
 replace bX:=bX.trans (hb1.mono bX.size)
 clear hb1
 obtain ⟨Y,hY⟩:∃ Y,Y=W1.alloc (.cells #[.int .i64 g,.slice a l.length c,.int .i64 t,.int .i64 hd,.bool y] 36):=⟨_,rfl⟩
 have A4:At Y W1.heap.size [.int .i64 g,.slice a l.length c,.int .i64 t,.int .i64 hd,.bool y] 36:=by rw [hY];exact heap_alloc_new W1 _
 have bY:Below W1.heap.size W1 Y:=by rw [hY];exact (Below.refl _ _).alloc (Nat.le_refl _) _
 have h24:=A2.lt
 go_wp2_with fail
 rw [←hY]
 replace A2:=A2.later bY A2.lt
 replace bX:=bX.trans (bY.mono bX.size)
 replace hrow:=hrow.later bY
 clear hY bY
 obtain ⟨b4,hb4⟩:∃ b4,W1.heap.size=b4:=⟨_,rfl⟩
 rw [hb4] at A4 h24 ⊢
 clear hb4
 refine (Go.Proofs.YtpkhdihoijkamaaGreatDoor.aas g t hd a l.length c y l Y hrow).mono ?_
 rintro e W2 ⟨rfl,hb2⟩
 replace A2:=A2.later hb2 A2.lt
 replace A4:=A4.later hb2 A4.lt
 replace bX:=bX.trans (hb2.mono bX.size)
 replace hrow:=hrow.later hb2
 clear hb2
 have HLD:Hid ((Instr.loadAt 36 (.pointer (some ⟨b4,0,.none⟩))).run Tryz.prog W2=.ok (.agg [.int .i64 g,.slice a l.length c,.int .i64 t,.int .i64 hd,.bool y].toArray) W2):=aa4 A4 rfl
 by_cases hf:Go.Proofs.YtpkhdihoijkamaaGreatDoor.fault g t hd l=0
 case neg =>
  as_aux_lemma =>
  rw [errW_no hf]
  have HF:Hid (¬Go.Proofs.YtpkhdihoijkamaaGreatDoor.fault g t hd l=0):=hf
  clear hf
  have hst:=store_st A2 rfl (vs:=[.int .i64 0,.slice .none 0 0,.int .i64 0,.int .i64 0,.bool false]) rfl one0
  have A9:=At.set [.int .i64 0,.slice .none 0 0,.int .i64 0,.int .i64 0,.bool false] 0 _ _ A2
  rw [ik [.int .i64 0,.slice .none 0 0,.int .i64 0,.int .i64 0,.bool false] [.int .i64 0,.slice .none 0 0,.int .i64 0,.int .i64 0,.bool false] rfl] at A9
  have bz:=below_setCells (Nat.le_refl w.heap.size) [.int .i64 0,.slice .none 0 0,.int .i64 0,.int .i64 0,.bool false] 0 _ bX
  generalize W2.setCells w.heap.size 0 [.int .i64 0,.slice .none 0 0,.int .i64 0,.int .i64 0,.bool false]=Z at *
  have HZ:Hid ((Instr.storeAt 36 (.pointer (some ⟨w.heap.size,0,.none⟩)) (.agg [.int .i64 0,.slice .none 0 0,.int .i64 0,.int .i64 0,.bool false].toArray)).run Tryz.prog W2=.ok () Z):=hst
  have HR:Hid ((Instr.loadAt 36 (.pointer (some ⟨w.heap.size,0,.none⟩))).run Tryz.prog Z=.ok (.agg [.int .i64 0,.slice .none 0 0,.int .i64 0,.int .i64 0,.bool false].toArray) Z):=aa4 A9 rfl
  clear hst A9 A2 A4
  go_wp2_with (first|(with_reducible refine ak HLD.out rfl rfl ?_)|(with_reducible refine cu HZ.out rfl rfl ?_))
  refine bodyPost_ret (tq Tryz.results140 rfl HR.out) rfl ⟨.inr ⟨fun h=>HF.out h.1,rfl⟩,bz⟩
 rw [hf]
 have HF:Hid (Go.Proofs.YtpkhdihoijkamaaGreatDoor.fault g t hd l=0):=hf
 clear hf
 rw [show Go.Proofs.YtpkhdihoijkamaaGreatDoor.ai 0=.nilIface from rfl]
 have HRO:Hid (Go.Proofs.YtpkhdihoijkamaaGreatDoor.Row W2 a l.length l):=hrow
 clear hrow
 go_wp2_with (with_reducible refine ak HLD.out rfl rfl ?_)
 refine (rtext_ok g t hd y a l.length c l W2 (hL.later bX) HRO.out (sok_of HF.out HL4.out)).mono ?_
 rintro e W3 ⟨rfl,hb3⟩
 replace A2:=A2.later hb3 A2.lt
 replace A4:=A4.later hb3 A4.lt
 replace bX:=bX.trans (hb3.mono bX.size)
 replace HRO:Hid (Go.Proofs.YtpkhdihoijkamaaGreatDoor.Row W3 a l.length l):=HRO.out.later hb3
 clear hb3 HLD
 have HLD:Hid ((Instr.loadAt 36 (.pointer (some ⟨b4,0,.none⟩))).run Tryz.prog W3=.ok (.agg [.int .i64 g,.slice a l.length c,.int .i64 t,.int .i64 hd,.bool y].toArray) W3):=aa4 A4 rfl
 by_cases he:je g t hd y l=s
 case neg =>
  as_aux_lemma =>
  have HE:Hid (¬je g t hd y l=s):=he
  have he':(je g t hd y l == s)=false:=by simpa using he
  clear he
  have hst:=store_st A2 rfl (vs:=[.int .i64 0,.slice .none 0 0,.int .i64 0,.int .i64 0,.bool false]) rfl one0
  have A9:=At.set [.int .i64 0,.slice .none 0 0,.int .i64 0,.int .i64 0,.bool false] 0 _ _ A2
  rw [ik [.int .i64 0,.slice .none 0 0,.int .i64 0,.int .i64 0,.bool false] [.int .i64 0,.slice .none 0 0,.int .i64 0,.int .i64 0,.bool false] rfl] at A9
  have bz:=below_setCells (Nat.le_refl w.heap.size) [.int .i64 0,.slice .none 0 0,.int .i64 0,.int .i64 0,.bool false] 0 _ bX
  generalize W3.setCells w.heap.size 0 [.int .i64 0,.slice .none 0 0,.int .i64 0,.int .i64 0,.bool false]=Z at *
  have HZ:Hid ((Instr.storeAt 36 (.pointer (some ⟨w.heap.size,0,.none⟩)) (.agg [.int .i64 0,.slice .none 0 0,.int .i64 0,.int .i64 0,.bool false].toArray)).run Tryz.prog W3=.ok () Z):=hst
  have HR:Hid ((Instr.loadAt 36 (.pointer (some ⟨w.heap.size,0,.none⟩))).run Tryz.prog Z=.ok (.agg [.int .i64 0,.slice .none 0 0,.int .i64 0,.int .i64 0,.bool false].toArray) Z):=aa4 A9 rfl
  clear hst A9 A2 A4
  go_wp2_with (first|(with_reducible refine ak HLD.out rfl rfl ?_)|(with_reducible refine cu HZ.out rfl rfl ?_))
  refine bodyPost_ret (tq Tryz.results140 rfl HR.out) rfl ⟨.inr ⟨fun h=>HE.out h.2,rfl⟩,bz⟩
 as_aux_lemma =>
 have HE:Hid (je g t hd y l=s):=he
 have he':(je g t hd y l == s)=true:=by simpa using he
 clear he
 have hst:=store_st A2 rfl (vs:=[.int .i64 g,.slice a l.length c,.int .i64 t,.int .i64 hd,.bool y]) rfl (by intro v hv;simp at hv;rcases hv with rfl|rfl|rfl|rfl|rfl <;> rfl)
 have A9:=At.set [.int .i64 g,.slice a l.length c,.int .i64 t,.int .i64 hd,.bool y] 0 _ _ A2
 rw [ik [.int .i64 g,.slice a l.length c,.int .i64 t,.int .i64 hd,.bool y] [.int .i64 0,.slice .none 0 0,.int .i64 0,.int .i64 0,.bool false] rfl] at A9
 have bz:=below_setCells (Nat.le_refl w.heap.size) [.int .i64 g,.slice a l.length c,.int .i64 t,.int .i64 hd,.bool y] 0 _ bX
 have hrz:Go.Proofs.YtpkhdihoijkamaaGreatDoor.Row (W3.setCells w.heap.size 0 [.int .i64 g,.slice a l.length c,.int .i64 t,.int .i64 hd,.bool y]) a l.length l:=Row.setCells HRO.out HFA.out _ 0
 generalize W3.setCells w.heap.size 0 [.int .i64 g,.slice a l.length c,.int .i64 t,.int .i64 hd,.bool y]=Z at *
 have HZ:Hid ((Instr.storeAt 36 (.pointer (some ⟨w.heap.size,0,.none⟩)) (.agg [.int .i64 g,.slice a l.length c,.int .i64 t,.int .i64 hd,.bool y].toArray)).run Tryz.prog W3=.ok () Z):=hst
 have HR:Hid ((Instr.loadAt 36 (.pointer (some ⟨w.heap.size,0,.none⟩))).run Tryz.prog Z=.ok (.agg [.int .i64 g,.slice a l.length c,.int .i64 t,.int .i64 hd,.bool y].toArray) Z):=aa4 A9 rfl
 have HRZ:Hid (Go.Proofs.YtpkhdihoijkamaaGreatDoor.Row Z a l.length l):=hrz
 clear hst A9 A2 A4 hrz HRO
 go_wp2_with (first|(with_reducible refine ak HLD.out rfl rfl ?_)|(with_reducible refine cu HZ.out rfl rfl ?_))
 refine bodyPost_ret (tq Tryz.results140 rfl HR.out) rfl ⟨.inl ⟨a,c,⟨HF.out,HE.out⟩,rfl,HRZ.out,fun p hp=>Nat.le_of_lt (HFA.out p hp)⟩,bz⟩
theorem rs_join:∀ (n:Nat) (ws:List (List UInt8)),(∀ w ∈ ws,(32:UInt8) ∉ w)→n<ws.length→rsW n (oz ws)=oz (ws.drop n)
 | 0,_,_,_=>rfl
 | n+1,ws,hb,hn=>by
   have ih:=rs_join n ws hb (by omega)
   show (Lib.cut (rsW n (oz ws)) [32]).2.1=_
   rw [ih,List.drop_eq_getElem_cons (by omega:n<ws.length),List.drop_eq_getElem_cons (by omega:n+1<ws.length),cut_words (hb _ (List.getElem_mem _))]
theorem nx_join (n:Nat) (ws:List (List UInt8)) (hb:∀ w ∈ ws,(32:UInt8) ∉ w) (hn:n<ws.length):nxW n (oz ws)=ws[n]:=by
 unfold nxW
 rw [rs_join n ws hb hn,List.drop_eq_getElem_cons hn]
 by_cases h:n+1<ws.length
 ·rw [List.drop_eq_getElem_cons h,cut_words (hb _ (List.getElem_mem _))]
 ·rw [List.drop_of_length_le (by omega),cut_word (hb _ (List.getElem_mem _))]
theorem abg {n:Int} (h0:0≤n) (h9:n≤1000000000):numOf ⟨(eu n).toArray⟩=n:=by
 have:=num_dec n.toNat (by omega)
 unfold eu
 rw [this];omega
theorem stays_back (b:Bool):(yn b == [115,116,97,121,115])=b:=by cases b <;> decide
theorem abt (g t hd:Int) (y:Bool) (l:List (Int × Int)):(ow g t hd y l).map (·.data.toList)=eu g :: eu t :: eu hd :: yn y :: l.map (fun r=>eu r.1 ++ 58 :: eu r.2):=by
 unfold ow
 rw [List.map_append,List.map_map]
 have hs:(staysT y).data.toList=yn y:=by cases y <;> rfl
 have hd:∀ n,(mh n).data.toList=eu n:=fun n=>rfl
 have hr:∀ r,(regW r).data.toList=eu r.1 ++ 58 :: eu r.2:=fun r=>rfl
 simp [hs,hd,hr,Function.comp_def]
theorem dec_no (n:Int) {c:UInt8} (h:c.toNat<48∨57<c.toNat):c ∉ eu n:=by
 intro hm
 have:=dec_dig n.toNat c hm
 omega
theorem stW_noblank (g t hd:Int) (y:Bool) (l:List (Int × Int)):∀ w ∈ (ow g t hd y l).map (·.data.toList),(32:UInt8) ∉ w:=by
 rw [abt]
 have h0:=fun n=>dec_noblank n
 intro w hw
 simp only [List.mem_cons,List.mem_map] at hw
 rcases hw with rfl|rfl|rfl|rfl|⟨r,_,rfl⟩
 ·exact h0 _
 ·exact h0 _
 ·exact h0 _
 ·exact stays_noblank y
 ·intro hm
  rcases List.mem_append.1 hm with hm|hm
  ·exact h0 _ hm
  ·rcases List.mem_cons.1 hm with e|hm
   ·exact absurd e (by decide)
   ·exact h0 _ hm
theorem rs_over (ws:List (List UInt8)) (hb:∀ w ∈ ws,(32:UInt8) ∉ w) (h0:0<ws.length):∀ n,ws.length≤n→rsW n (oz ws)=[]
 | 0,h=>by omega
 | n+1,h=>by
   show (Lib.cut (rsW n (oz ws)) [32]).2.1=[]
   by_cases hn:ws.length≤n
   ·rw [rs_over ws hb h0 n hn];rfl
   ·rw [rs_join n ws hb (by omega),List.drop_eq_getElem_cons (by omega:n<ws.length),List.drop_of_length_le (by omega),cut_word (hb _ (List.getElem_mem _))]
theorem nx_over (ws:List (List UInt8)) (hb:∀ w ∈ ws,(32:UInt8) ∉ w) (h0:0<ws.length) (n:Nat) (h:ws.length≤n):nxW n (oz ws)=[]:=by
 unfold nxW
 rw [rs_over ws hb h0 n h];rfl
theorem st_nx (g t hd:Int) (y:Bool) (l:List (Int × Int)):nxW 0 (je g t hd y l)=eu g∧nxW 1 (je g t hd y l)=eu t∧nxW 2 (je g t hd y l)=eu hd∧nxW 3 (je g t hd y l)=yn y:=by
 have hb:=stW_noblank g t hd y l
 have hl:=abt g t hd y l
 have nx:=fun (n:Nat) (hn:n<((ow g t hd y l).map (·.data.toList)).length)=>nx_join n _ hb hn
 unfold je
 refine ⟨?_,?_,?_,?_⟩
 ·exact (nx 0 (by rw [hl];simp)).trans (by simp [hl])
 ·exact (nx 1 (by rw [hl];simp)).trans (by simp [hl])
 ·exact (nx 2 (by rw [hl];simp)).trans (by simp [hl])
 ·exact (nx 3 (by rw [hl];simp)).trans (by simp [hl])
theorem st_nxr (g t hd:Int) (y:Bool) (l:List (Int × Int)) (j:Nat):nxW (4+j) (je g t hd y l)=if h:j<l.length then eu l[j].1 ++ 58 :: eu l[j].2 else []:=by
 have hb:=stW_noblank g t hd y l
 have hl:=abt g t hd y l
 unfold je
 split
 ·rename_i h
  have hlen:4+j<((ow g t hd y l).map (·.data.toList)).length:=by rw [hl];simp;omega
  refine (nx_join (4+j) _ hb hlen).trans ?_
  have e:∀ (k:Nat) (hk:k<((ow g t hd y l).map (·.data.toList)).length) (hk':k<(eu g :: eu t :: eu hd :: yn y :: l.map (fun r=>eu r.1 ++ 58 :: eu r.2)).length),((ow g t hd y l).map (·.data.toList))[k]=(eu g :: eu t :: eu hd :: yn y :: l.map (fun r=>eu r.1 ++ 58 :: eu r.2))[k]:=by
   intro k hk hk'
   congr 1
  rw [e (4+j) hlen (by simp;omega)]
  simp only [show 4+j=j+1+1+1+1 by omega]
  simp
 ·refine nx_over _ hb (by rw [hl];simp) (4+j) (by rw [hl];simp;omega)
theorem take_none {l:List (Int × Int)} {j:Nat} (h:¬j<l.length):l.take (j+1)=l.take j:=by
 rw [List.take_of_length_le (by omega),List.take_of_length_le (by omega)]
theorem regs_back {g t hd:Int} (y:Bool) {l:List (Int × Int)} (F:SOK g t hd l):∀ j,nz j (je g t hd y l)=l.take j
 | 0=>rfl
 | j+1=>by
   unfold nz
   rw [regs_back y F j,st_nxr g t hd y l j]
   by_cases h:j<l.length
   ·have hr:=F.reg l[j] (List.getElem_mem h)
    have hc:Lib.cut (eu l[j].1 ++ 58 :: eu l[j].2) [58]=(eu l[j].1,eu l[j].2,true):=by
     rw [cut_eq];exact adc _ _ (dec_no _ (by decide))
    simp only [h,dite_true,hc,if_true]
    rw [abg (by omega) (by omega),abg (by omega) (by omega),List.take_succ_eq_append_getElem h]
   ·simp only [h,dite_false]
    rw [take_none h]
    have:(Lib.cut ([]:List UInt8) [58]).2.2=false:=rfl
    rw [this]
    simp
theorem st_back {g t hd:Int} (y:Bool) {l:List (Int × Int)} (F:SOK g t hd l):numOf ⟨(nxW 0 (je g t hd y l)).toArray⟩=g∧numOf ⟨(nxW 1 (je g t hd y l)).toArray⟩=t∧numOf ⟨(nxW 2 (je g t hd y l)).toArray⟩=hd∧(nxW 3 (je g t hd y l) == (staysT true).toList)=y∧nz 4 (je g t hd y l)=l:=by
 obtain ⟨h0,h1,h2,h3⟩:=st_nx g t hd y l
 have t8:=F.t8
 have h4:=F.h4
 refine ⟨?_,?_,?_,?_,?_⟩
 ·rw [h0];exact abg F.g0 F.g9
 ·rw [h1];exact abg F.t0 (by omega)
 ·rw [h2];exact abg F.h0 (by omega)
 ·rw [h3,ByteArray.toList_eq];exact stays_back y
 ·rw [regs_back y F,List.take_of_length_le F.len]
theorem dec_len1 {n:Int} (h:n≤9):(eu n).length=1:=by
 unfold eu
 rw [yt,if_pos (by omega)];rfl
theorem dec_len3 {n:Int} (h:n≤999):(eu n).length≤3:=by
 unfold eu
 rw [yt]
 split
 ·simp
 ·rw [yt]
  split
  ·simp
  ·rw [yt,if_pos (by omega)];simp
theorem st_len49 {g t hd:Int} (y:Bool) {l:List (Int × Int)} (F:SOK g t hd l):(je g t hd y l).length≤49:=by
 have hj:∀ (m:Nat) (ws:List (List UInt8)),(∀ w ∈ ws,w.length≤m)→(oz ws).length≤(m+1)*ws.length:=by
  intro m ws
  induction ws with
  | nil=>intro _;simp [oz,Lib.join,List.intercalate]
  | cons w ws ih =>
    intro h
    have h1:=h w List.mem_cons_self
    have h2:=ih (fun x hx=>h x (List.mem_cons_of_mem _ hx))
    cases ws with
    | nil=>rw [abh];simp;omega
    | cons x ws=>rw [zi];simp only [List.length_append,List.length_cons] at h2 ⊢;rw [Nat.mul_add];omega
 have ha:∀ (a b:List (List UInt8)),a≠[]→(oz (a ++ b)).length≤(oz a).length+1+(oz b).length:=by
  intro a b hne
  induction a with
  | nil=>exact absurd rfl hne
  | cons w a ih =>
    cases a with
    | nil=>cases b with
      | nil=>simp only [List.append_nil];omega
      | cons x b=>rw [List.singleton_append,zi,abh];simp;omega
    | cons x a=>have:=ih (by simp);rw [List.cons_append,List.cons_append,zi,zi];rw [List.cons_append] at this;simp only [List.length_append,List.length_cons] at this ⊢;omega
 have g9:=F.g9
 have t8:=F.t8
 have h4:=F.h4
 have hlen:=F.len
 have e:je g t hd y l=oz ([eu g,eu t,eu hd,yn y] ++ l.map (fun r=>eu r.1 ++ 58 :: eu r.2)):=by
  unfold je
  rw [abt];rfl
 rw [e]
 have h1:=ha [eu g,eu t,eu hd,yn y] (l.map (fun r=>eu r.1 ++ 58 :: eu r.2)) (by simp)
 have h2:=hj 5 (l.map (fun r=>eu r.1 ++ 58 :: eu r.2)) (fun w hw=>by
  obtain ⟨r,hr,rfl⟩:=List.mem_map.1 hw
  have:=F.reg r hr
  have a1:=dec_len1 (n:=r.1) (by omega)
  have a2:=dec_len3 (n:=r.2) (by omega)
  simp;omega)
 have h3:(oz [eu g,eu t,eu hd,yn y]).length≤20:=by
  have a0:=dec_len (n:=g) g9
  have a1:=dec_len1 (n:=t) (by omega)
  have a2:=dec_len1 (n:=hd) (by omega)
  have a3:(yn y).length≤5:=by cases y <;> decide
  rw [zi,zi,zi,abh]
  simp;omega
 simp only [List.length_map] at h2
 omega
end Go.Proofs.YtpkhdihoijkamaaGreatDoor.K
namespace Go.Proofs.YtpkhdihoijkamaaGreatDoor
open Go.ChangeShapes Go.WideShapes Go.ChangeAt Go.RowKit
theorem neq_reg (x k:Int) (w:World):(binOp .neq 127 (.agg #[.int .i64 x,.int .i64 k]) (.agg #[.int .i64 x,.int .i64 k])).run Tryz.prog w=.ok (.bool false) w:=by
 have u3:=Tryz.underlying3
 have a3:=Tryz.isAgg3
 have z3:=Tryz.sizeOf3
 have hS:Tryz.prog.underlying 127=some (.struct (Tryz.prog.fieldsOf 127)):=by kernel_rfl
 have hp:Tryz.prog.stoodInHeld 127=false:=by kernel_rfl
 rw [run_neq_struct,show (10000:Nat)=9999+1 from rfl,run_equalIn_agg w 9999 127 _ _ hS hp]
 simp only [Program.fieldsOf,Tryz.underlying127]
 go_simp
theorem assert_errno (f:Int) (w:World):(Instr.typeAssert (.iface 96 (.int .i64 f)) 32 96 true).run Tryz.prog w=.ok (.tuple #[.int .i64 f,.bool true]) w:=by kernel_rfl
theorem abk (g t h:Int) (a a':Option Addr) (n n' c c':Nat) (y:Bool) (l:List (Int × Int)) (w:World) (hr:Row w a n l) (hr':Row w a' n' l) :
 Calls Tryz.prog 33 #[.agg #[.int .i64 g,.slice a n c,.int .i64 t,.int .i64 h,.bool y],.agg #[.int .i64 g,.slice a' n' c',.int .i64 t,.int .i64 h,.bool y]] w fun e w'=>e=.returned (.bool true)∧Below w.heap.size w w':=by
 obtain ⟨hl,hn,hrow⟩:=hr
 obtain ⟨hl',hn',hrow'⟩:=hr'
 have hnn:n'=n:=by omega
 subst hnn
 have hneq:=neq_reg
 have hgd:Tryz.prog.eqGuardType Tryz.prog.depth 127=false:=by kernel_rfl
 go_enter Tryz.func33,Tryz.ntmps33
 go_wp2
 go_loopw [5] (fun i wr=>∃ k:Nat,k≤n'∧i=.int .i64 k∧B5 wr w.heap.size (.int .i64 g) (.slice a n' c) (.int .i64 t) (.int .i64 h) (.bool y)∧B5 wr (w.heap.size+1) (.int .i64 g) (.slice a' n' c') (.int .i64 t) (.int .i64 h) (.bool y)∧Below w.heap.size w wr) (fun i _=>n' - (intOf i).toNat)
 case atStart=>exact ⟨0,Nat.zero_le _,rfl,by refine ⟨?_,?_,?_,?_,?_⟩ <;> simp [go_sem],by refine ⟨?_,?_,?_,?_,?_⟩ <;> simp [go_sem],((Below.refl _ _).alloc (Nat.le_refl _) _).alloc (by simp) _⟩
 case round =>
  obtain ⟨k,hk,rfl,x1,x2,bw⟩:=hrel
  obtain ⟨b0,b1,b2,b3,b4⟩:=id x1
  obtain ⟨e0,e1,e2,e3,e4⟩:=id x2
  by_cases hlt:k<n'
  ·obtain ⟨b,off,rfl,hc⟩:=hrow (by omega)
   obtain ⟨b',off',rfl,hc'⟩:=hrow' (by omega)
   have hc0:=cell_later bw (hc k (by omega)).1
   have hc1:=cell_later bw (hc k (by omega)).2
   have hd0:=cell_later bw (hc' k (by omega)).1
   have hd1:=cell_later bw (hc' k (by omega)).2
   have hki:(k:Int)<(n':Int):=by omega
   clear hc hc' hrow hrow'
   go_wp2
   go_quiet (fail)
   go_wp2
   go_roundw
   case rel=>exact ⟨k+1,by omega,by go_num,x1.later (below_drewN (Below.refl _ _) _),x2.later (below_drewN (Below.refl _ _) _),below_drewN bw _⟩
   case measure=>simp [intOf];omega
  ·have hlt':decide ((k:Int)<(n':Int))=false:=by simp;omega
   go_wp2
   go_ret
   exact ⟨rfl,bw⟩
end Go.Proofs.YtpkhdihoijkamaaGreatDoor
namespace Go.Proofs.YtpkhdihoijkamaaGreatDoor.D
open Go.ChangeShapes Go.WideShapes Go.ChangeAt Go.RowKit Go.Deep
structure KS where
 g:Int
 t:Int
 hd:Int
 y:Bool
 l:List (Int × Int)
def KS.vs (s:KS) (a:Option Addr) (c:Nat):List Value:=[.int .i64 s.g,.slice a s.l.length c,.int .i64 s.t,.int .i64 s.hd,.bool s.y]
def KS.f (s:KS):Int:=Go.Proofs.YtpkhdihoijkamaaGreatDoor.fault s.g s.t s.hd s.l
def KS.none:KS:=⟨0,0,0,false,[]⟩
theorem KS.one (s:KS) (a:Option Addr) (c:Nat):∀ v ∈ s.vs a c,v.oneCell'=true:=by
 intro v hv
 simp only [KS.vs,List.mem_cons,List.not_mem_nil,or_false] at hv
 rcases hv with rfl|rfl|rfl|rfl|rfl <;> rfl
theorem rf_lenK:∀ (l:List (Int × Int)) (p:Int),p≤4→Go.Proofs.YtpkhdihoijkamaaGreatDoor.rf p l=0→(l.length:Int)≤4 - p
 | [],p,h,_=>by simp;omega
 | q :: l,p,h,hf=>by
   unfold Go.Proofs.YtpkhdihoijkamaaGreatDoor.rf at hf
   split at hf
   ·omega
   ·split at hf
    ·omega
    ·have:=rf_lenK l q.1 (by omega) hf
     simp only [List.length_cons];omega
theorem KS.len {s:KS} (h:s.f=0):s.l.length≤4:=by
 have:=rf_lenK s.l 0 (by decide) (Go.Proofs.YtpkhdihoijkamaaGreatDoor.fault_rf h).1
 omega
theorem KS.sok {s:KS} (h:s.f=0):K.SOK s.g s.t s.hd s.l:=K.sok_of h (KS.len h)
def df (e:Int) (s:KS):List UInt8:=kpre ++ (K.eu e ++ 32 :: K.je s.g s.t s.hd s.y s.l)
theorem dec_lenk (k:Nat):∀ n:Nat,n<10 ^ (k+1)→(Lib.decDigits n).length≤k+1:=by
 induction k with
 | zero=>intro n hn;rw [Go.Proofs.YtpkhdihoijkamaaGreatDoor.yt,if_pos (by simpa using hn)];simp
 | succ k ih =>
   intro n hn
   rw [Go.Proofs.YtpkhdihoijkamaaGreatDoor.yt]
   split
   ·simp
   ·have:=ih (n / 10) (by rw [Nat.pow_succ] at hn;omega)
    simp;omega
theorem abe {e:Int} (h1:e≤1000000) {s:KS} (h:s.f=0):(df e s).length≤64:=by
 have h49:=K.st_len49 s.y (KS.sok h)
 have h7:(K.eu e).length≤7:=dec_lenk 6 e.toNat (by omega)
 simp only [df,List.length_append,List.length_cons,kpre,List.length_nil]
 omega
theorem joinW_mem:∀ (ws:List (List UInt8)) (c:UInt8),c ∈ Go.Proofs.YtpkhdihoijkamaaGreatDoor.oz ws→c=32∨∃ w ∈ ws,c ∈ w
 | [],c,h=>by simp [Go.Proofs.YtpkhdihoijkamaaGreatDoor.oz,Lib.join,List.intercalate] at h
 | [w],c,h=>by rw [Go.Proofs.YtpkhdihoijkamaaGreatDoor.abh] at h;exact .inr ⟨w,List.mem_cons_self,h⟩
 | w :: x :: ws,c,h=>by
   rw [Go.Proofs.YtpkhdihoijkamaaGreatDoor.zi] at h
   rcases List.mem_append.1 h with h|h
   ·exact .inr ⟨w,List.mem_cons_self,h⟩
   ·rcases List.mem_cons.1 h with h|h
    ·exact .inl h
    ·rcases joinW_mem (x :: ws) c h with h|⟨v,hv,h⟩
     ·exact .inl h
     ·exact .inr ⟨v,List.mem_cons_of_mem _ hv,h⟩
theorem decI_nz (n:Int):∀ c ∈ K.eu n,c≠0:=by
 rintro c hc rfl
 have:=Go.Proofs.YtpkhdihoijkamaaGreatDoor.dec_dig n.toNat 0 hc
 simp at this
theorem st_nz (s:KS):∀ c ∈ K.je s.g s.t s.hd s.y s.l,c≠0:=by
 intro c hc
 have hj:K.je s.g s.t s.hd s.y s.l=Go.Proofs.YtpkhdihoijkamaaGreatDoor.oz ((K.ow s.g s.t s.hd s.y s.l).map (·.data.toList)):=rfl
 rw [hj,K.abt] at hc
 rcases joinW_mem _ c hc with rfl|⟨w,hw,hc⟩
 ·decide
 ·simp only [List.mem_cons,List.mem_map] at hw
  rcases hw with rfl|rfl|rfl|rfl|⟨r,_,rfl⟩
  ·exact decI_nz _ c hc
  ·exact decI_nz _ c hc
  ·exact decI_nz _ c hc
  ·have:∀ b,∀ c ∈ K.yn b,c≠0:=by
    intro b;cases b <;> decide
   exact this _ c hc
  ·rcases List.mem_append.1 hc with hc|hc
   ·exact decI_nz _ c hc
   ·rcases List.mem_cons.1 hc with rfl|hc
    ·decide
    ·exact decI_nz _ c hc
theorem ktxt_nz (e:Int) (s:KS):∀ c ∈ df e s,c≠0:=by
 intro c hc
 unfold df at hc
 rcases List.mem_append.1 hc with hc|hc
 ·have hk:∀ c ∈ kpre,c≠0:=by decide
  exact hk c hc
 ·rcases List.mem_append.1 hc with hc|hc
  ·exact decI_nz _ c hc
  ·rcases List.mem_cons.1 hc with rfl|hc
   ·decide
   ·exact st_nz s c hc
theorem undSt:∃ d,Tryz.prog.underlying 36=some d∧d.isRow=true:=⟨_,Tryz.underlying36,rfl⟩
theorem szSt:(Tryz.prog.info? 36).map (·.size)=some 5:=by kernel_rfl
theorem load_stO {X:World} {b o:Nat} {T:TypeId} {cs:List Value} {s:KS} {a:Option Addr} {c:Nat} (h:At X b cs T) (hc:∀ j,j<5→cs[o+j]? = (s.vs a c)[j]?) :
 (Instr.loadAt 36 (.pointer (some ⟨b,o,.none⟩))).run Tryz.prog X=.ok (.agg (s.vs a c).toArray) X:=by
 obtain ⟨d,hd,hr⟩:=undSt
 exact run_loadAt_mid X b o _ (s.vs a c) d (h.range o (s.vs a c) (fun j hj=>hc j (by simpa [KS.vs] using hj))) hd hr szSt
theorem jk {X:World} {b:Nat} {T:TypeId} {s:KS} {a:Option Addr} {c:Nat} (h:At X b (s.vs a c) T):(Instr.loadAt 36 (.pointer (some ⟨b,0,.none⟩))).run Tryz.prog X=.ok (.agg (s.vs a c).toArray) X :=
 load_stO h (fun j _=>by rw [Nat.zero_add])
theorem adh {X:World} {b o:Nat} {T:TypeId} {cs:List Value} (s:KS) (a:Option Addr) (c:Nat) (h:At X b cs T) (ho:o+5≤cs.length) :
 (Instr.storeAt 36 (.pointer (some ⟨b,o,.none⟩)) (.agg (s.vs a c).toArray)).run Tryz.prog X=.ok () (X.setCells b o (s.vs a c)) :=
 run_storeAt_mid X b o _ (s.vs a c).toArray (by simpa [KS.vs] using h.there o 5 ho) szSt (all_oneCell_toArray (s.one a c))
theorem xc {F F':Nat→Prop} {w w':World} {a:Option Addr} {n:Nat} {l:List (Int × Int)} (h:Go.Proofs.YtpkhdihoijkamaaGreatDoor.Row w a n l) (hm:ae F F' w w') (hf:∀ p,a=some p→n≠0→¬F p.block):Go.Proofs.YtpkhdihoijkamaaGreatDoor.Row w' a n l:=by
 refine ⟨h.1,h.2.1,fun hn=>?_⟩
 obtain ⟨g,off,e,hc⟩:=h.2.2 hn
 have hf':=hf _ e hn
 exact ⟨g,off,e,fun i hi=>⟨hm.cell (hc i hi).1 hf',hm.cell (hc i hi).2 hf'⟩⟩
theorem yo {w:World} {a:Option Addr} {n:Nat} {l:List (Int × Int)} (h:Go.Proofs.YtpkhdihoijkamaaGreatDoor.Row w a n l) (hn:n≠0):∀ p,a=some p→p.block<w.heap.size:=by
 intro p hp
 obtain ⟨g,off,e,hc⟩:=h.2.2 hn
 rw [e] at hp
 obtain rfl:(⟨g,off,.none⟩:Addr)=p:=by simpa using hp
 have h1:=(hc 0 (by rw [h.1];omega)).1
 refine Nat.lt_of_not_le fun hge=>?_
 have hno:w.heap[g]? = .none:=Array.getElem?_eq_none hge
 simp [World.cell?,hno] at h1
theorem clone_reg (a:Option Addr) (n c:Nat) (l:List (Int × Int)) (w:World) (hr:Go.Proofs.YtpkhdihoijkamaaGreatDoor.Row w a n l) (hn:n≤1000000) :
 Calls Tryz.prog 114 #[.slice a n c] w fun e w'=>∃ a' c',e=.returned (.slice a' n c')∧Go.Proofs.YtpkhdihoijkamaaGreatDoor.Row w' a' n l∧(∀ p,a'=some p→w.heap.size≤p.block∧p.block<w'.heap.size)∧Below w.heap.size w w':=by
 cases a with
 | none =>
   have hn0:n=0:=by
    rcases Nat.eq_zero_or_pos n with h|h
    ·exact h
    ·obtain ⟨b,off,e,_⟩:=hr.2.2 (by omega)
     cases e
   refine (Go.Proofs.YtpkhdihoijkamaaGreatDoor.clone_nil n c w).mono ?_
   rintro e _ ⟨rfl,rfl⟩
   subst hn0
   exact ⟨.none,0,rfl,hr,fun p hp=>(by cases hp),Below.refl _ _⟩
 | some ad =>
   refine (Go.Proofs.YtpkhdihoijkamaaGreatDoor.clone_some ad n c l w hr hn).mono ?_
   rintro e w' ⟨g,cap,rfl,ho,hb⟩
   have hl:=hr.1
   refine ⟨_,_,rfl,?_,fun p hp=>?_,hb⟩
   ·rw [←hl];exact ho.row
   ·obtain rfl:(⟨g,0,.none⟩:Addr)=p:=by simpa using hp
    exact ⟨ho.1,ho.lt⟩
theorem kclone_any (s:KS) (a:Option Addr) (c:Nat) (w:World) (hr:Go.Proofs.YtpkhdihoijkamaaGreatDoor.Row w a s.l.length s.l) (hn:s.l.length≤1000000) :
 Calls Tryz.prog 86 #[.agg (s.vs a c).toArray] w fun e w'=>∃ a' c',e=.returned (.agg (s.vs a' c').toArray)∧Go.Proofs.YtpkhdihoijkamaaGreatDoor.Row w' a' s.l.length s.l∧(∀ p,a'=some p→w.heap.size≤p.block∧p.block<w'.heap.size)∧Below w.heap.size w w':=by
 obtain ⟨X,hX,a0,a1,bX,sX⟩:=two w (.cells (s.vs a c).toArray 36) (.cells #[.int .i64 0,.slice .none 0 0,.int .i64 0,.int .i64 0,.bool false] 36)
 have A0:At X w.heap.size (s.vs a c) 36:=a0
 have A1:At X (w.heap.size+1) (KS.none.vs .none 0) 36:=a1
 have HR:Hid (Go.Proofs.YtpkhdihoijkamaaGreatDoor.Row X a s.l.length s.l):=hr.later bX
 have HB:Hid (Below w.heap.size w X):=bX
 have c1:X.cell? ⟨w.heap.size,1,.none⟩=some (.slice a s.l.length c):=A0.cell 1
 clear a0 a1 hr bX
 go_enter Tryz.func86,Tryz.ntmps86
 go_upto_region 1 with fail
 rw [←hX]
 clear hX
 go_wp2_with fail
 refine (clone_reg a s.l.length c s.l X HR.out hn).mono ?_
 rintro r W1 ⟨a',c',rfl,hr',hq,b1⟩
 have hs1:=b1.size
 have A0':=A0.later b1 A0.lt
 have c2:W1.cell? ⟨w.heap.size,1,.none⟩=some (.slice a s.l.length c):=A0'.cell 1
 have f1:W1.frozen? ⟨w.heap.size,1,.none⟩=false:=(A0'.there 1 1 (by simp [KS.vs]) 0 (by decide)).2
 have B0:At (W1.setCell ⟨w.heap.size,1,.none⟩ (.slice a' s.l.length c')) w.heap.size (s.vs a' c') 36:=A0'.setCell_same 1 (.slice a' s.l.length c')
 have B1:=(A1.later b1 A1.lt).setCell_ne ⟨w.heap.size,1,.none⟩ (by simp) (.slice a' s.l.length c')
 have hbw:Below w.heap.size w (W1.setCell ⟨w.heap.size,1,.none⟩ (.slice a' s.l.length c')):=(HB.out.trans (b1.mono HB.out.size)).setCell (p:=⟨w.heap.size,1,.none⟩) (Nat.le_refl _) _
 have hr2:Go.Proofs.YtpkhdihoijkamaaGreatDoor.Row (W1.setCell ⟨w.heap.size,1,.none⟩ (.slice a' s.l.length c')) a' s.l.length s.l:=xc hr' ((ae.refl (Is w.heap.size) _).one_set 1 _) (fun p hp _ e=>by have:=(hq p hp).1;have:p.block=w.heap.size:=e;omega)
 clear A0 A0' A1 HR HB c1
 go_upto_region 2 with fail
 generalize hW2:W1.setCell ⟨w.heap.size,1,.none⟩ (.slice a' s.l.length c')=W2 at *
 have hs2:W2.heap.size=W1.heap.size:=by rw [←hW2];simp [World.setCell]
 clear c2 f1 hW2 hr'
 have HL:Hid ((Instr.loadAt 36 (.pointer (some ⟨w.heap.size,0,.none⟩))).run Tryz.prog W2=.ok (.agg (s.vs a' c').toArray) W2):=jk B0
 have hst:=adh (o:=0) s a' c' B1 (by simp [KS.vs])
 have B2:=At.set (s.vs a' c') 0 _ _ B1
 rw [ik _ _ (by simp [KS.vs])] at B2
 have b2:=below_setCells (show w.heap.size≤w.heap.size+1 by omega) (s.vs a' c') 0 _ hbw
 have hs3:=size_setCells (w.heap.size+1) (s.vs a' c') 0 W2
 have hr3:Go.Proofs.YtpkhdihoijkamaaGreatDoor.Row (W2.setCells (w.heap.size+1) 0 (s.vs a' c')) a' s.l.length s.l:=xc hr2 (ae.sets (show Is (w.heap.size+1) (w.heap.size+1) from rfl) _ _ _ (ae.refl _ _)) (fun p hp _ e=>by have:=(hq p hp).1;have:p.block=w.heap.size+1:=e;omega)
 generalize W2.setCells (w.heap.size+1) 0 (s.vs a' c')=W3 at *
 have HST:Hid ((Instr.storeAt 36 (.pointer (some ⟨w.heap.size+1,0,.none⟩)) (.agg (s.vs a' c').toArray)).run Tryz.prog W2=.ok () W3):=hst
 have HR:Hid ((Instr.loadAt 36 (.pointer (some ⟨w.heap.size+1,0,.none⟩))).run Tryz.prog W3=.ok (.agg (s.vs a' c').toArray) W3):=jk B2
 clear hst B0 B1 B2 hbw hr2
 go_wp2_with (first|(with_reducible refine ak HL.out rfl rfl ?_)|(with_reducible refine cu HST.out rfl rfl ?_))
 refine bodyPost_ret (zg Tryz.results86 rfl HR.out) rfl ⟨a',c',rfl,hr3,fun p hp=>?_,b2⟩
 have:=hq p hp
 omega
theorem dsz (n:Int) (h:n≤1000000000):(K.mh n).size≤10:=K.decB_len h
theorem ktext_any (e:Int) (h0:0≤e) (h1:e≤1000000) (s:KS) (hs:s.f=0) (a:Option Addr) (c:Nat) (w:World) (hL:K.Laid w) (hr:Go.Proofs.YtpkhdihoijkamaaGreatDoor.Row w a s.l.length s.l) :
 Calls Tryz.prog 122 #[.int .i64 e,.agg (s.vs a c).toArray] w fun r w'=>r=.returned (.string ⟨(df e s).toArray⟩)∧Below w.heap.size w w':=by
 obtain ⟨X,hX,a0,bX,sX⟩:=one w (.cells (s.vs a c).toArray 36)
 have A0:At X w.heap.size (s.vs a c) 36:=a0
 have HL:Hid (K.Laid X):=hL.later bX
 have HR:Hid (Go.Proofs.YtpkhdihoijkamaaGreatDoor.Row X a s.l.length s.l):=hr.later bX
 have HB:Hid (Below w.heap.size w X):=bX
 have HS:Hid (s.f=0):=hs
 clear a0 bX hL hr hs
 go_enter Tryz.func122,Tryz.ntmps122
 go_upto_region 1 with fail
 rw [←hX]
 clear hX
 obtain ⟨q0,q1,q2,hq1,hq2,hq3,z0,z1,z2⟩:∃ q0 q1 q2:ByteArray,(⟨#[107,101,101,112,101,114,32]⟩:ByteArray) ++ K.mh e=q0∧q0 ++ (⟨#[32]⟩:ByteArray)=q1∧q1 ++ ⟨(K.je s.g s.t s.hd s.y s.l).toArray⟩=q2∧q0.size=7+(K.mh e).size∧q1.size=8+(K.mh e).size∧q2=⟨(df e s).toArray⟩:=by
  refine ⟨_,_,_,rfl,rfl,rfl,?_,?_,?_⟩
  ·rw [ByteArray.size_append];rfl
  ·rw [ByteArray.size_append,ByteArray.size_append]
   show 7+_+1=_
   omega
  ·refine ByteArray.ext ?_
   simp [ByteArray.data_append,df,kpre,K.mh]
 have hd:=dsz e (by omega)
 have hst:=K.st_len49 s.y (KS.sok HS.out)
 have HZ:Hid (q2=⟨(df e s).toArray⟩):=z2
 have HTX:Hid (∀ W,Below X.heap.size X W→Calls Tryz.prog 160 #[.agg (s.vs a c).toArray] W fun r w'=>r=.returned (.string ⟨(K.je s.g s.t s.hd s.y s.l).toArray⟩)∧Below W.heap.size W w'):=fun W hW=>K.rtext_ok s.g s.t s.hd s.y a s.l.length c s.l W (HL.out.later hW) (HR.out.later hW) (KS.sok HS.out)
 obtain ⟨d,hdd⟩:∃ d,K.mh e=d:=⟨_,rfl⟩
 have HIT:Hid (∀ W,Below X.heap.size X W→Calls Tryz.prog 159 #[.int .i64 e] W fun r w'=>r=.returned (.string d)∧Below W.heap.size W w'):=fun W hW=>by rw [←hdd];exact K.abb e h0 (by omega) W (HL.out.later hW)
 rw [hdd] at hq1 hd z0 z1
 obtain ⟨st,hstd,hsts⟩:∃ st:ByteArray,(⟨(K.je s.g s.t s.hd s.y s.l).toArray⟩:ByteArray)=st∧st.size≤49:=⟨_,rfl,by simpa [ByteArray.size] using hst⟩
 rw [hstd] at hq3 HTX
 clear hdd hstd hst z2
 have k0:(7:Int)+(d.size:Int)≤9223372036854775807:=by omega
 have k1:(q0.size:Int)+1≤9223372036854775807:=by omega
 have k2:(q1.size:Int)+(st.size:Int)≤9223372036854775807:=by omega
 have n0:7+d.size≤9223372036854775807:=by omega
 have n1:q0.size+1≤9223372036854775807:=by omega
 have n2:q1.size+st.size≤9223372036854775807:=by omega
 clear z0 z1 hd hsts
 refine wp_region_held (S:=fun w'=>At w' w.heap.size (s.vs a c) 36) (by kernel_rfl) ?_
 have HSS:Hid (At X.drew w.heap.size (s.vs a c) 36):=A0
 have HBX:Hid (Below X.heap.size X X.drew):=(Below.refl _ _).drew
 clear A0
 refine wpG 0 (.int .i64 e) HSS.out ?_
 refine wpT 4 (.agg (s.vs a c).toArray) (.inl ⟨rfl,fun w' hw'=>?_⟩) HSS.out ?_
 ·exact jc (jk hw') rfl
 (try simp [Act.put])
 refine wpA 1 (wpS ?_)
 go_wp2_with fail
 refine (HIT.out _ HBX.out).mono ?_
 rintro r W1 ⟨rfl,b1⟩
 have HSW:Hid (At W1 w.heap.size (s.vs a c) 36):=HSS.out.later b1 HSS.out.lt
 have HBW:Hid (Below X.heap.size X W1):=HBX.out.trans b1
 clear b1 HSS HBX
 refine ⟨HSW.out,?_⟩
 (try simp [Act.put])
 refine wpG 2 (.string q0) HSW.out ?_
 (try simp [Act.put])
 refine wpG 3 (.string q1) HSW.out ?_
 (try simp [Act.put])
 refine wpA 5 (wpS ?_)
 go_wp2_with fail
 refine (HTX.out _ HBW.out).mono ?_
 rintro r W2 ⟨rfl,b1⟩
 have HS2:Hid (At W2 w.heap.size (s.vs a c) 36):=HSW.out.later b1 HSW.out.lt
 have HB2:Hid (Below w.heap.size w W2):=HB.out.trans ((HBW.out.mono (by omega)).trans (b1.mono (by have:=HBW.out.size;omega)))
 clear b1 HSW HBW
 refine ⟨HS2.out,?_⟩
 (try simp [Act.put])
 refine wpG 6 (.string q2) HS2.out ?_
 (try simp [Act.put])
 refine wpG 7 (.string q2) HS2.out ?_
 (try simp [Act.put])
 refine wpZ ?_
 (try simp [Act.put])
 clear HS2 HTX HIT
 go_wp2
 go_ret
 exact ⟨by rw [←HZ.out];rfl,HB2.out⟩
end Go.Proofs.YtpkhdihoijkamaaGreatDoor.D
