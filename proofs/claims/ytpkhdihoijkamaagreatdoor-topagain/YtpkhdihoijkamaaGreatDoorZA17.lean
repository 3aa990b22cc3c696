/- Several texts of this seat in one: TAdd0, TAdd1, TAdd2, TAdd3, TAdd, TPow. No statement of the seat is proved here. -/
import Derived.Test.YtpkhdihoijkamaaGreatDoorZA16
import Derived.Deep.RegionHeld3
set_option maxHeartbeats 4000000
namespace Go.Proofs.YtpkhdihoijkamaaGreatDoor
open Go.ChangeShapes Go.WideShapes Go.ChangeAt Go.RowKit Go.Deep
attribute [local go_sem ↓] Go.wp_at_zero Go.wp_at_succ
theorem add_0 (A:Nat→Option Addr) (N C:Nat→Nat) (L:Nat→List Int) (what:Int) (lo:Nat) (w:World) (hB:j6 w lo A N C L) (hlo:lo≤w.heap.size) (hL:∀ j,j<4→(L j).length≤900) :
 Calls Tryz.prog 108 #[bx A N C,.agg #[.int .i64 1,.int .i64 what]] w fun e w'=>∃ A' N' C',e=.returned (bx A' N' C')∧j6 w' lo A' N' C' (upd L 0 (ni (L 0) what))∧Below w.heap.size w w'∧Fresh w.heap.size A N A' N':=by
 have hF:=hB 0 (by decide)
 have hlen:=hL 0 (by decide)
 have hln:=hF.1.1
 obtain ⟨bw0,hs0⟩:=Trio.below w (.slice (A 0) (N 0) (C 0)) (.slice (A 1) (N 1) (C 1)) (.slice (A 2) (N 2) (C 2)) (.slice (A 3) (N 3) (C 3)) 1 what
 have T0:=Trio.start w (.slice (A 0) (N 0) (C 0)) (.slice (A 1) (N 1) (C 1)) (.slice (A 2) (N 2) (C 2)) (.slice (A 3) (N 3) (C 3)) 1 what
 unfold bx
 go_enter Tryz.func108,Tryz.ntmps108
 go_wp2_with fail
 refine (aak 1 _).mono ?_
 rintro e w1 ⟨rfl,rfl⟩
 rw [show ∀ v0 v1 v2 v3,((w.alloc (.cells #[v0,v1,v2,v3] 103)).alloc (.cells #[.int .i64 1,.int .i64 what] 171)).alloc (.cells #[.slice .none 0 0,.slice .none 0 0,.slice .none 0 0,.slice .none 0 0] 103)=trioW w v0 v1 v2 v3 1 what from fun _ _ _ _=>rfl]
 generalize hX:trioW w (.slice (A 0) (N 0) (C 0)) (.slice (A 1) (N 1) (C 1)) (.slice (A 2) (N 2) (C 2)) (.slice (A 3) (N 3) (C 3)) 1 what=X at *
 obtain ⟨⟨c0,c1,c2,c3⟩,⟨d0,d1⟩,⟨e0,e1,e2,e3⟩,⟨f0,f1,f2,f3⟩,⟨q0,q1,q2,q3⟩⟩:=T0.cells
 have hcap:=hF.2.2.2
 have hmx:max 0 (-4:Int)=0:=by decide
 by_cases hn0:N 0=0
 ·have hl0:L 0=[]:=List.eq_nil_of_length_eq_zero (by omega)
  rw [hn0] at c0
  have HAD:Hid (ni (L 0) what=[] ++ [what]):=by show _=_;rw [hl0];rfl
  have hnum:∀ a5:Option Addr,dz X a5 0 []:=fun a5=>⟨rfl,by omega,fun h=>absurd rfl h⟩
  by_cases hC0:C 0=0
  ·rw [hC0] at c0
   go_wp2
   go_quiet (fail)
   go_wp2
   have H5:Hid (dz X (A 0) (0) ([])):=hnum _
   have H6:Hid ((A 0)=.none→(0)=0):=fun _=>rfl
   go_region_with (go_at_call 135;refine (yw X (w.heap.size+3) _ hs0 what (A 0) (0) (0) ([]) H5.out H6.out (by omega)).mono ?_;rintro e w3 ⟨a3,n3,c3',rfl,hf3,hb3⟩;have T3:=T0.later hb3 (Nat.le_refl _);obtain ⟨⟨g0,g1,g2,g3⟩,⟨h0,h1⟩,⟨i0,i1,i2,i3⟩,⟨j0,j1,j2,j3⟩,⟨k0,k1,k2,k3⟩⟩:=T3.cells)
   all_goals
    clear c0 c1 c2 c3 d0 d1 e0 e1 e2 e3 f0 f1 f2 f3 q0 q1 q2 q3
    have bw3:=bw0.trans (hb3.mono (by omega))
    clear T0 H5 H6
    go_wp2
    obtain ⟨Z,hZ,z0,z1,z2,z3⟩:=TZ.cells (N:=w.heap.size) (J:=0) (u:=.slice a3 n3 c3') (v0:=Value.slice a3 n3 c3') (v1:=Value.slice (A 1) (N 1) (C 1)) (v2:=Value.slice (A 2) (N 2) (C 2)) (v3:=Value.slice (A 3) (N 3) (C 3)) T3.2.2 (by omega)
    have hZ':=hZ
    unfold TZ at hZ'
    rw [←hZ']
    clear hZ'
    have HZ:Hid (Z=TZ w3 w.heap.size (w.heap.size+1+1) 0 (.slice a3 n3 c3') (Value.slice a3 n3 c3') (Value.slice (A 1) (N 1) (C 1)) (Value.slice (A 2) (N 2) (C 2)) (Value.slice (A 3) (N 3) (C 3))):=hZ
    clear hZ
    refine bodyPost_ret (v:=.agg #[Value.slice a3 n3 c3',Value.slice (A 1) (N 1) (C 1),Value.slice (A 2) (N 2) (C 2),Value.slice (A 3) (N 3) (C 3)]) (by simp [results,Tryz.results108,go_sem,z0,z1,z2,z3]) rfl ⟨upd A 0 a3,upd N 0 n3,upd C 0 c3',rfl,?_,?_,su (fun ad e=>Nat.le_trans (by omega) (hf3.2.2.1 ad e))⟩
    ·rw [HZ.out,HAD.out]
     exact hB.upd (TZ.below bw3 (Nat.le_refl _) (by omega)) ((TZ.fl hf3 (by omega) (by omega)).mono (by omega))
    ·rw [HZ.out];exact TZ.below bw3 (Nat.le_refl _) (by omega)
  ·go_wp2
   go_quiet (fail)
   go_wp2
   have H5:Hid (dz X (A 0) (0) ([])):=hnum _
   have H6:Hid ((A 0)=.none→(C 0)=0):=hF.2.1
   go_region_with (go_at_call 135;refine (yw X (w.heap.size+3) _ hs0 what (A 0) (0) (C 0) ([]) H5.out H6.out (by omega)).mono ?_;rintro e w3 ⟨a3,n3,c3',rfl,hf3,hb3⟩;have T3:=T0.later hb3 (Nat.le_refl _);obtain ⟨⟨g0,g1,g2,g3⟩,⟨h0,h1⟩,⟨i0,i1,i2,i3⟩,⟨j0,j1,j2,j3⟩,⟨k0,k1,k2,k3⟩⟩:=T3.cells)
   all_goals
    clear c0 c1 c2 c3 d0 d1 e0 e1 e2 e3 f0 f1 f2 f3 q0 q1 q2 q3
    have bw3:=bw0.trans (hb3.mono (by omega))
    clear T0 H5 H6
    go_wp2
    obtain ⟨Z,hZ,z0,z1,z2,z3⟩:=TZ.cells (N:=w.heap.size) (J:=0) (u:=.slice a3 n3 c3') (v0:=Value.slice a3 n3 c3') (v1:=Value.slice (A 1) (N 1) (C 1)) (v2:=Value.slice (A 2) (N 2) (C 2)) (v3:=Value.slice (A 3) (N 3) (C 3)) T3.2.2 (by omega)
    have hZ':=hZ
    unfold TZ at hZ'
    rw [←hZ']
    clear hZ'
    have HZ:Hid (Z=TZ w3 w.heap.size (w.heap.size+1+1) 0 (.slice a3 n3 c3') (Value.slice a3 n3 c3') (Value.slice (A 1) (N 1) (C 1)) (Value.slice (A 2) (N 2) (C 2)) (Value.slice (A 3) (N 3) (C 3))):=hZ
    clear hZ
    refine bodyPost_ret (v:=.agg #[Value.slice a3 n3 c3',Value.slice (A 1) (N 1) (C 1),Value.slice (A 2) (N 2) (C 2),Value.slice (A 3) (N 3) (C 3)]) (by simp [results,Tryz.results108,go_sem,z0,z1,z2,z3]) rfl ⟨upd A 0 a3,upd N 0 n3,upd C 0 c3',rfl,?_,?_,su (fun ad e=>Nat.le_trans (by omega) (hf3.2.2.1 ad e))⟩
    ·rw [HZ.out,HAD.out]
     exact hB.upd (TZ.below bw3 (Nat.le_refl _) (by omega)) ((TZ.fl hf3 (by omega) (by omega)).mono (by omega))
    ·rw [HZ.out];exact TZ.below bw3 (Nat.le_refl _) (by omega)
 ·obtain ⟨m,hm⟩:∃ m,N 0=m+1:=⟨N 0 - 1,by omega⟩
  obtain ⟨b,off,ha,hc⟩:=(hF.1.later bw0).2.2 hn0
  have hNX:Hid (dz X (some ⟨b,off,.none⟩) (m+1) (L 0)):=by have:=hF.1.later bw0;rw [ha,hm] at this;exact this
  have hlast:=hc m (by omega)
  rw [ha,hm] at c0
  clear hc
  by_cases hq:(L 0)[m]=what
  ·have hq':((L 0)[m] == what)=true:=by simpa using hq
   have HAD:Hid (ni (L 0) what=L 0):=by show _=_;unfold ni;rw [if_pos (by rw [List.getLast?_eq_getElem?,show (L 0).length - 1=m by omega,List.getElem?_eq_getElem (by omega),hq])]
   go_wp2
   go_quiet (fail)
   go_wp2
   obtain ⟨Z,hZ,z0,z1,z2,z3⟩:=TK.cells (X:=X.drewN nq) (v0:=Value.slice (some ⟨b,off,.none⟩) (m+1) (C 0)) (v1:=Value.slice (A 1) (N 1) (C 1)) (v2:=Value.slice (A 2) (N 2) (C 2)) (v3:=Value.slice (A 3) (N 3) (C 3)) (T0.later (below_drewN (Below.refl _ _) nq) (Nat.le_of_eq hs0.symm)).2.2
   have hZ':=hZ
   unfold TK at hZ'
   rw [←hZ']
   clear hZ'
   have HZ:Hid (Z=TK (X.drewN nq) (w.heap.size+1+1) (Value.slice (some ⟨b,off,.none⟩) (m+1) (C 0)) (Value.slice (A 1) (N 1) (C 1)) (Value.slice (A 2) (N 2) (C 2)) (Value.slice (A 3) (N 3) (C 3))):=hZ
   clear hZ
   have bZ:Below w.heap.size w Z:=by rw [HZ.out];exact TK.below (below_drewN bw0 nq) (by omega)
   refine bodyPost_ret (v:=.agg #[Value.slice (some ⟨b,off,.none⟩) (m+1) (C 0),Value.slice (A 1) (N 1) (C 1),Value.slice (A 2) (N 2) (C 2),Value.slice (A 3) (N 3) (C 3)]) (by simp [results,Tryz.results108,go_sem,z0,z1,z2,z3]) rfl ⟨upd A 0 (some ⟨b,off,.none⟩),upd N 0 (m+1),C,rfl,?_,bZ,aap ha hm⟩
   rw [HAD.out]
   have hFz:=hF.later bZ
   rw [ha,hm] at hFz
   exact upd_same C 0▸hB.upd bZ hFz
  ·have hq':((L 0)[m] == what)=false:=by simpa using hq
   obtain ⟨k,hk⟩:∃ k,k=m - 3:=⟨_,rfl⟩
   have hmax:max 0 ((m:Int)+1 - 4)=(k:Int):=by omega
   have hCk:¬(C 0=k):=by omega
   have hkm:k≤m+1:=by omega
   have hkm':m+1 - k≤4:=by omega
   have HK:Hid (k=m - 3):=hk
   have HAD:Hid (ni (L 0) what=(L 0).drop k ++ [what]):=by show _=_;unfold ni;rw [if_neg (by rw [List.getLast?_eq_getElem?,show (L 0).length - 1=m by omega,List.getElem?_eq_getElem (by omega)];simpa using hq)];rw [show (L 0).length - 4=k by omega]
   clear hk
   go_wp2
   go_quiet (fail)
   go_wp2
   have H5:Hid (dz X ((some ⟨b,off+k,.none⟩:Option Addr)) (m+1 - k) ((L 0).drop k)):=hNX.out.drop k hkm
   have H6:Hid (((some ⟨b,off+k,.none⟩:Option Addr))=.none→(C 0 - k)=0):=fun h=>by cases h
   go_region_with (go_at_call 135;refine (yw X (w.heap.size+3) _ hs0 what ((some ⟨b,off+k,.none⟩:Option Addr)) (m+1 - k) (C 0 - k) ((L 0).drop k) H5.out H6.out (by omega)).mono ?_;rintro e w3 ⟨a3,n3,c3',rfl,hf3,hb3⟩;have T3:=T0.later hb3 (Nat.le_refl _);obtain ⟨⟨g0,g1,g2,g3⟩,⟨h0,h1⟩,⟨i0,i1,i2,i3⟩,⟨j0,j1,j2,j3⟩,⟨k0,k1,k2,k3⟩⟩:=T3.cells)
   all_goals
    clear c0 c1 c2 c3 d0 d1 e0 e1 e2 e3 f0 f1 f2 f3 q0 q1 q2 q3
    have bw3:=bw0.trans (hb3.mono (by omega))
    clear T0 H5 H6
    go_wp2
    obtain ⟨Z,hZ,z0,z1,z2,z3⟩:=TZ.cells (N:=w.heap.size) (J:=0) (u:=.slice a3 n3 c3') (v0:=Value.slice a3 n3 c3') (v1:=Value.slice (A 1) (N 1) (C 1)) (v2:=Value.slice (A 2) (N 2) (C 2)) (v3:=Value.slice (A 3) (N 3) (C 3)) T3.2.2 (by omega)
    have hZ':=hZ
    unfold TZ at hZ'
    rw [←hZ']
    clear hZ'
    have HZ:Hid (Z=TZ w3 w.heap.size (w.heap.size+1+1) 0 (.slice a3 n3 c3') (Value.slice a3 n3 c3') (Value.slice (A 1) (N 1) (C 1)) (Value.slice (A 2) (N 2) (C 2)) (Value.slice (A 3) (N 3) (C 3))):=hZ
    clear hZ
    refine bodyPost_ret (v:=.agg #[Value.slice a3 n3 c3',Value.slice (A 1) (N 1) (C 1),Value.slice (A 2) (N 2) (C 2),Value.slice (A 3) (N 3) (C 3)]) (by simp [results,Tryz.results108,go_sem,z0,z1,z2,z3]) rfl ⟨upd A 0 a3,upd N 0 n3,upd C 0 c3',rfl,?_,?_,su (fun ad e=>Nat.le_trans (by omega) (hf3.2.2.1 ad e))⟩
    ·rw [HZ.out,HAD.out]
     exact hB.upd (TZ.below bw3 (Nat.le_refl _) (by omega)) ((TZ.fl hf3 (by omega) (by omega)).mono (by omega))
    ·rw [HZ.out];exact TZ.below bw3 (Nat.le_refl _) (by omega)
end Go.Proofs.YtpkhdihoijkamaaGreatDoor
namespace Go.Proofs.YtpkhdihoijkamaaGreatDoor
open Go.ChangeShapes Go.WideShapes Go.ChangeAt Go.RowKit Go.Deep
attribute [local go_sem ↓] Go.wp_at_zero Go.wp_at_succ
theorem add_1 (A:Nat→Option Addr) (N C:Nat→Nat) (L:Nat→List Int) (what:Int) (lo:Nat) (w:World) (hB:j6 w lo A N C L) (hlo:lo≤w.heap.size) (hL:∀ j,j<4→(L j).length≤900) :
 Calls Tryz.prog 108 #[bx A N C,.agg #[.int .i64 2,.int .i64 what]] w fun e w'=>∃ A' N' C',e=.returned (bx A' N' C')∧j6 w' lo A' N' C' (upd L 1 (ni (L 1) what))∧Below w.heap.size w w'∧Fresh w.heap.size A N A' N':=by
 have hF:=hB 1 (by decide)
 have hlen:=hL 1 (by decide)
 have hln:=hF.1.1
 obtain ⟨bw0,hs0⟩:=Trio.below w (.slice (A 0) (N 0) (C 0)) (.slice (A 1) (N 1) (C 1)) (.slice (A 2) (N 2) (C 2)) (.slice (A 3) (N 3) (C 3)) 2 what
 have T0:=Trio.start w (.slice (A 0) (N 0) (C 0)) (.slice (A 1) (N 1) (C 1)) (.slice (A 2) (N 2) (C 2)) (.slice (A 3) (N 3) (C 3)) 2 what
 unfold bx
 go_enter Tryz.func108,Tryz.ntmps108
 go_wp2_with fail
 refine (aak 2 _).mono ?_
 rintro e w1 ⟨rfl,rfl⟩
 rw [show ∀ v0 v1 v2 v3,((w.alloc (.cells #[v0,v1,v2,v3] 103)).alloc (.cells #[.int .i64 2,.int .i64 what] 171)).alloc (.cells #[.slice .none 0 0,.slice .none 0 0,.slice .none 0 0,.slice .none 0 0] 103)=trioW w v0 v1 v2 v3 2 what from fun _ _ _ _=>rfl]
 generalize hX:trioW w (.slice (A 0) (N 0) (C 0)) (.slice (A 1) (N 1) (C 1)) (.slice (A 2) (N 2) (C 2)) (.slice (A 3) (N 3) (C 3)) 2 what=X at *
 obtain ⟨⟨c0,c1,c2,c3⟩,⟨d0,d1⟩,⟨e0,e1,e2,e3⟩,⟨f0,f1,f2,f3⟩,⟨q0,q1,q2,q3⟩⟩:=T0.cells
 have hcap:=hF.2.2.2
 have hmx:max 0 (-4:Int)=0:=by decide
 by_cases hn0:N 1=0
 ·have hl0:L 1=[]:=List.eq_nil_of_length_eq_zero (by omega)
  rw [hn0] at c1
  have HAD:Hid (ni (L 1) what=[] ++ [what]):=by show _=_;rw [hl0];rfl
  have hnum:∀ a5:Option Addr,dz X a5 0 []:=fun a5=>⟨rfl,by omega,fun h=>absurd rfl h⟩
  by_cases hC0:C 1=0
  ·rw [hC0] at c1
   go_wp2
   go_quiet (fail)
   go_wp2
   have H5:Hid (dz X (A 1) (0) ([])):=hnum _
   have H6:Hid ((A 1)=.none→(0)=0):=fun _=>rfl
   go_region_with (go_at_call 135;refine (yw X (w.heap.size+3) _ hs0 what (A 1) (0) (0) ([]) H5.out H6.out (by omega)).mono ?_;rintro e w3 ⟨a3,n3,c3',rfl,hf3,hb3⟩;have T3:=T0.later hb3 (Nat.le_refl _);obtain ⟨⟨g0,g1,g2,g3⟩,⟨h0,h1⟩,⟨i0,i1,i2,i3⟩,⟨j0,j1,j2,j3⟩,⟨k0,k1,k2,k3⟩⟩:=T3.cells)
   all_goals
    clear c0 c1 c2 c3 d0 d1 e0 e1 e2 e3 f0 f1 f2 f3 q0 q1 q2 q3
    have bw3:=bw0.trans (hb3.mono (by omega))
    clear T0 H5 H6
    go_wp2
    obtain ⟨Z,hZ,z0,z1,z2,z3⟩:=TZ.cells (N:=w.heap.size) (J:=1) (u:=.slice a3 n3 c3') (v0:=Value.slice (A 0) (N 0) (C 0)) (v1:=Value.slice a3 n3 c3') (v2:=Value.slice (A 2) (N 2) (C 2)) (v3:=Value.slice (A 3) (N 3) (C 3)) T3.2.2 (by omega)
    have hZ':=hZ
    unfold TZ at hZ'
    rw [←hZ']
    clear hZ'
    have HZ:Hid (Z=TZ w3 w.heap.size (w.heap.size+1+1) 1 (.slice a3 n3 c3') (Value.slice (A 0) (N 0) (C 0)) (Value.slice a3 n3 c3') (Value.slice (A 2) (N 2) (C 2)) (Value.slice (A 3) (N 3) (C 3))):=hZ
    clear hZ
    refine bodyPost_ret (v:=.agg #[Value.slice (A 0) (N 0) (C 0),Value.slice a3 n3 c3',Value.slice (A 2) (N 2) (C 2),Value.slice (A 3) (N 3) (C 3)]) (by simp [results,Tryz.results108,go_sem,z0,z1,z2,z3]) rfl ⟨upd A 1 a3,upd N 1 n3,upd C 1 c3',rfl,?_,?_,su (fun ad e=>Nat.le_trans (by omega) (hf3.2.2.1 ad e))⟩
    ·rw [HZ.out,HAD.out]
     exact hB.upd (TZ.below bw3 (Nat.le_refl _) (by omega)) ((TZ.fl hf3 (by omega) (by omega)).mono (by omega))
    ·rw [HZ.out];exact TZ.below bw3 (Nat.le_refl _) (by omega)
  ·go_wp2
   go_quiet (fail)
   go_wp2
   have H5:Hid (dz X (A 1) (0) ([])):=hnum _
   have H6:Hid ((A 1)=.none→(C 1)=0):=hF.2.1
   go_region_with (go_at_call 135;refine (yw X (w.heap.size+3) _ hs0 what (A 1) (0) (C 1) ([]) H5.out H6.out (by omega)).mono ?_;rintro e w3 ⟨a3,n3,c3',rfl,hf3,hb3⟩;have T3:=T0.later hb3 (Nat.le_refl _);obtain ⟨⟨g0,g1,g2,g3⟩,⟨h0,h1⟩,⟨i0,i1,i2,i3⟩,⟨j0,j1,j2,j3⟩,⟨k0,k1,k2,k3⟩⟩:=T3.cells)
   all_goals
    clear c0 c1 c2 c3 d0 d1 e0 e1 e2 e3 f0 f1 f2 f3 q0 q1 q2 q3
    have bw3:=bw0.trans (hb3.mono (by omega))
    clear T0 H5 H6
    go_wp2
    obtain ⟨Z,hZ,z0,z1,z2,z3⟩:=TZ.cells (N:=w.heap.size) (J:=1) (u:=.slice a3 n3 c3') (v0:=Value.slice (A 0) (N 0) (C 0)) (v1:=Value.slice a3 n3 c3') (v2:=Value.slice (A 2) (N 2) (C 2)) (v3:=Value.slice (A 3) (N 3) (C 3)) T3.2.2 (by omega)
    have hZ':=hZ
    unfold TZ at hZ'
    rw [←hZ']
    clear hZ'
    have HZ:Hid (Z=TZ w3 w.heap.size (w.heap.size+1+1) 1 (.slice a3 n3 c3') (Value.slice (A 0) (N 0) (C 0)) (Value.slice a3 n3 c3') (Value.slice (A 2) (N 2) (C 2)) (Value.slice (A 3) (N 3) (C 3))):=hZ
    clear hZ
    refine bodyPost_ret (v:=.agg #[Value.slice (A 0) (N 0) (C 0),Value.slice a3 n3 c3',Value.slice (A 2) (N 2) (C 2),Value.slice (A 3) (N 3) (C 3)]) (by simp [results,Tryz.results108,go_sem,z0,z1,z2,z3]) rfl ⟨upd A 1 a3,upd N 1 n3,upd C 1 c3',rfl,?_,?_,su (fun ad e=>Nat.le_trans (by omega) (hf3.2.2.1 ad e))⟩
    ·rw [HZ.out,HAD.out]
     exact hB.upd (TZ.below bw3 (Nat.le_refl _) (by omega)) ((TZ.fl hf3 (by omega) (by omega)).mono (by omega))
    ·rw [HZ.out];exact TZ.below bw3 (Nat.le_refl _) (by omega)
 ·obtain ⟨m,hm⟩:∃ m,N 1=m+1:=⟨N 1 - 1,by omega⟩
  obtain ⟨b,off,ha,hc⟩:=(hF.1.later bw0).2.2 hn0
  have hNX:Hid (dz X (some ⟨b,off,.none⟩) (m+1) (L 1)):=by have:=hF.1.later bw0;rw [ha,hm] at this;exact this
  have hlast:=hc m (by omega)
  rw [ha,hm] at c1
  clear hc
  by_cases hq:(L 1)[m]=what
  ·have hq':((L 1)[m] == what)=true:=by simpa using hq
   have HAD:Hid (ni (L 1) what=L 1):=by show _=_;unfold ni;rw [if_pos (by rw [List.getLast?_eq_getElem?,show (L 1).length - 1=m by omega,List.getElem?_eq_getElem (by omega),hq])]
   go_wp2
   go_quiet (fail)
   go_wp2
   obtain ⟨Z,hZ,z0,z1,z2,z3⟩:=TK.cells (X:=X.drewN nq) (v0:=Value.slice (A 0) (N 0) (C 0)) (v1:=Value.slice (some ⟨b,off,.none⟩) (m+1) (C 1)) (v2:=Value.slice (A 2) (N 2) (C 2)) (v3:=Value.slice (A 3) (N 3) (C 3)) (T0.later (below_drewN (Below.refl _ _) nq) (Nat.le_of_eq hs0.symm)).2.2
   have hZ':=hZ
   unfold TK at hZ'
   rw [←hZ']
   clear hZ'
   have HZ:Hid (Z=TK (X.drewN nq) (w.heap.size+1+1) (Value.slice (A 0) (N 0) (C 0)) (Value.slice (some ⟨b,off,.none⟩) (m+1) (C 1)) (Value.slice (A 2) (N 2) (C 2)) (Value.slice (A 3) (N 3) (C 3))):=hZ
   clear hZ
   have bZ:Below w.heap.size w Z:=by rw [HZ.out];exact TK.below (below_drewN bw0 nq) (by omega)
   refine bodyPost_ret (v:=.agg #[Value.slice (A 0) (N 0) (C 0),Value.slice (some ⟨b,off,.none⟩) (m+1) (C 1),Value.slice (A 2) (N 2) (C 2),Value.slice (A 3) (N 3) (C 3)]) (by simp [results,Tryz.results108,go_sem,z0,z1,z2,z3]) rfl ⟨upd A 1 (some ⟨b,off,.none⟩),upd N 1 (m+1),C,rfl,?_,bZ,aap ha hm⟩
   rw [HAD.out]
   have hFz:=hF.later bZ
   rw [ha,hm] at hFz
   exact upd_same C 1▸hB.upd bZ hFz
  ·have hq':((L 1)[m] == what)=false:=by simpa using hq
   obtain ⟨k,hk⟩:∃ k,k=m - 3:=⟨_,rfl⟩
   have hmax:max 0 ((m:Int)+1 - 4)=(k:Int):=by omega
   have hCk:¬(C 1=k):=by omega
   have hkm:k≤m+1:=by omega
   have hkm':m+1 - k≤4:=by omega
   have HK:Hid (k=m - 3):=hk
   have HAD:Hid (ni (L 1) what=(L 1).drop k ++ [what]):=by show _=_;unfold ni;rw [if_neg (by rw [List.getLast?_eq_getElem?,show (L 1).length - 1=m by omega,List.getElem?_eq_getElem (by omega)];simpa using hq)];rw [show (L 1).length - 4=k by omega]
   clear hk
   go_wp2
   go_quiet (fail)
   go_wp2
   have H5:Hid (dz X ((some ⟨b,off+k,.none⟩:Option Addr)) (m+1 - k) ((L 1).drop k)):=hNX.out.drop k hkm
   have H6:Hid (((some ⟨b,off+k,.none⟩:Option Addr))=.none→(C 1 - k)=0):=fun h=>by cases h
   go_region_with (go_at_call 135;refine (yw X (w.heap.size+3) _ hs0 what ((some ⟨b,off+k,.none⟩:Option Addr)) (m+1 - k) (C 1 - k) ((L 1).drop k) H5.out H6.out (by omega)).mono ?_;rintro e w3 ⟨a3,n3,c3',rfl,hf3,hb3⟩;have T3:=T0.later hb3 (Nat.le_refl _);obtain ⟨⟨g0,g1,g2,g3⟩,⟨h0,h1⟩,⟨i0,i1,i2,i3⟩,⟨j0,j1,j2,j3⟩,⟨k0,k1,k2,k3⟩⟩:=T3.cells)
   all_goals
    clear c0 c1 c2 c3 d0 d1 e0 e1 e2 e3 f0 f1 f2 f3 q0 q1 q2 q3
    have bw3:=bw0.trans (hb3.mono (by omega))
    clear T0 H5 H6
    go_wp2
    obtain ⟨Z,hZ,z0,z1,z2,z3⟩:=TZ.cells (N:=w.heap.size) (J:=1) (u:=.slice a3 n3 c3') (v0:=Value.slice (A 0) (N 0) (C 0)) (v1:=Value.slice a3 n3 c3') (v2:=Value.slice (A 2) (N 2) (C 2)) (v3:=Value.slice (A 3) (N 3) (C 3)) T3.2.2 (by omega)
    have hZ':=hZ
    unfold TZ at hZ'
    rw [←hZ']
    clear hZ'
    have HZ:Hid (Z=TZ w3 w.heap.size (w.heap.size+1+1) 1 (.slice a3 n3 c3') (Value.slice (A 0) (N 0) (C 0)) (Value.slice a3 n3 c3') (Value.slice (A 2) (N 2) (C 2)) (Value.slice (A 3) (N 3) (C 3))):=hZ
    clear hZ
    refine bodyPost_ret (v:=.agg #[Value.slice (A 0) (N 0) (C 0),Value.slice a3 n3 c3',Value.slice (A 2) (N 2) (C 2),Value.slice (A 3) (N 3) (C 3)]) (by simp [results,Tryz.results108,go_sem,z0,z1,z2,z3]) rfl ⟨upd A 1 a3,upd N 1 n3,upd C 1 c3',rfl,?_,?_,su (fun ad e=>Nat.le_trans (by omega) (hf3.2.2.1 ad e))⟩
    ·rw [HZ.out,HAD.out]
     exact hB.upd (TZ.below bw3 (Nat.le_refl _) (by omega)) ((TZ.fl hf3 (by omega) (by omega)).mono (by omega))
    ·rw [HZ.out];exact TZ.below bw3 (Nat.le_refl _) (by omega)
end Go.Proofs.YtpkhdihoijkamaaGreatDoor
namespace Go.Proofs.YtpkhdihoijkamaaGreatDoor
open Go.ChangeShapes Go.WideShapes Go.ChangeAt Go.RowKit Go.Deep
attribute [local go_sem ↓] Go.wp_at_zero Go.wp_at_succ
theorem add_2 (A:Nat→Option Addr) (N C:Nat→Nat) (L:Nat→List Int) (what:Int) (lo:Nat) (w:World) (hB:j6 w lo A N C L) (hlo:lo≤w.heap.size) (hL:∀ j,j<4→(L j).length≤900) :
 Calls Tryz.prog 108 #[bx A N C,.agg #[.int .i64 3,.int .i64 what]] w fun e w'=>∃ A' N' C',e=.returned (bx A' N' C')∧j6 w' lo A' N' C' (upd L 2 (ni (L 2) what))∧Below w.heap.size w w'∧Fresh w.heap.size A N A' N':=by
 have hF:=hB 2 (by decide)
 have hlen:=hL 2 (by decide)
 have hln:=hF.1.1
 obtain ⟨bw0,hs0⟩:=Trio.below w (.slice (A 0) (N 0) (C 0)) (.slice (A 1) (N 1) (C 1)) (.slice (A 2) (N 2) (C 2)) (.slice (A 3) (N 3) (C 3)) 3 what
 have T0:=Trio.start w (.slice (A 0) (N 0) (C 0)) (.slice (A 1) (N 1) (C 1)) (.slice (A 2) (N 2) (C 2)) (.slice (A 3) (N 3) (C 3)) 3 what
 unfold bx
 go_enter Tryz.func108,Tryz.ntmps108
 go_wp2_with fail
 refine (aak 3 _).mono ?_
 rintro e w1 ⟨rfl,rfl⟩
 rw [show ∀ v0 v1 v2 v3,((w.alloc (.cells #[v0,v1,v2,v3] 103)).alloc (.cells #[.int .i64 3,.int .i64 what] 171)).alloc (.cells #[.slice .none 0 0,.slice .none 0 0,.slice .none 0 0,.slice .none 0 0] 103)=trioW w v0 v1 v2 v3 3 what from fun _ _ _ _=>rfl]
 generalize hX:trioW w (.slice (A 0) (N 0) (C 0)) (.slice (A 1) (N 1) (C 1)) (.slice (A 2) (N 2) (C 2)) (.slice (A 3) (N 3) (C 3)) 3 what=X at *
 obtain ⟨⟨c0,c1,c2,c3⟩,⟨d0,d1⟩,⟨e0,e1,e2,e3⟩,⟨f0,f1,f2,f3⟩,⟨q0,q1,q2,q3⟩⟩:=T0.cells
 have hcap:=hF.2.2.2
 have hmx:max 0 (-4:Int)=0:=by decide
 by_cases hn0:N 2=0
 ·have hl0:L 2=[]:=List.eq_nil_of_length_eq_zero (by omega)
  rw [hn0] at c2
  have HAD:Hid (ni (L 2) what=[] ++ [what]):=by show _=_;rw [hl0];rfl
  have hnum:∀ a5:Option Addr,dz X a5 0 []:=fun a5=>⟨rfl,by omega,fun h=>absurd rfl h⟩
  by_cases hC0:C 2=0
  ·rw [hC0] at c2
   go_wp2
   go_quiet (fail)
   go_wp2
   have H5:Hid (dz X (A 2) (0) ([])):=hnum _
   have H6:Hid ((A 2)=.none→(0)=0):=fun _=>rfl
   go_region_with (go_at_call 135;refine (yw X (w.heap.size+3) _ hs0 what (A 2) (0) (0) ([]) H5.out H6.out (by omega)).mono ?_;rintro e w3 ⟨a3,n3,c3',rfl,hf3,hb3⟩;have T3:=T0.later hb3 (Nat.le_refl _);obtain ⟨⟨g0,g1,g2,g3⟩,⟨h0,h1⟩,⟨i0,i1,i2,i3⟩,⟨j0,j1,j2,j3⟩,⟨k0,k1,k2,k3⟩⟩:=T3.cells)
   all_goals
    clear c0 c1 c2 c3 d0 d1 e0 e1 e2 e3 f0 f1 f2 f3 q0 q1 q2 q3
    have bw3:=bw0.trans (hb3.mono (by omega))
    clear T0 H5 H6
    go_wp2
    obtain ⟨Z,hZ,z0,z1,z2,z3⟩:=TZ.cells (N:=w.heap.size) (J:=2) (u:=.slice a3 n3 c3') (v0:=Value.slice (A 0) (N 0) (C 0)) (v1:=Value.slice (A 1) (N 1) (C 1)) (v2:=Value.slice a3 n3 c3') (v3:=Value.slice (A 3) (N 3) (C 3)) T3.2.2 (by omega)
    have hZ':=hZ
    unfold TZ at hZ'
    rw [←hZ']
    clear hZ'
    have HZ:Hid (Z=TZ w3 w.heap.size (w.heap.size+1+1) 2 (.slice a3 n3 c3') (Value.slice (A 0) (N 0) (C 0)) (Value.slice (A 1) (N 1) (C 1)) (Value.slice a3 n3 c3') (Value.slice (A 3) (N 3) (C 3))):=hZ
    clear hZ
    refine bodyPost_ret (v:=.agg #[Value.slice (A 0) (N 0) (C 0),Value.slice (A 1) (N 1) (C 1),Value.slice a3 n3 c3',Value.slice (A 3) (N 3) (C 3)]) (by simp [results,Tryz.results108,go_sem,z0,z1,z2,z3]) rfl ⟨upd A 2 a3,upd N 2 n3,upd C 2 c3',rfl,?_,?_,su (fun ad e=>Nat.le_trans (by omega) (hf3.2.2.1 ad e))⟩
    ·rw [HZ.out,HAD.out]
     exact hB.upd (TZ.below bw3 (Nat.le_refl _) (by omega)) ((TZ.fl hf3 (by omega) (by omega)).mono (by omega))
    ·rw [HZ.out];exact TZ.below bw3 (Nat.le_refl _) (by omega)
  ·go_wp2
   go_quiet (fail)
   go_wp2
   have H5:Hid (dz X (A 2) (0) ([])):=hnum _
   have H6:Hid ((A 2)=.none→(C 2)=0):=hF.2.1
   go_region_with (go_at_call 135;refine (yw X (w.heap.size+3) _ hs0 what (A 2) (0) (C 2) ([]) H5.out H6.out (by omega)).mono ?_;rintro e w3 ⟨a3,n3,c3',rfl,hf3,hb3⟩;have T3:=T0.later hb3 (Nat.le_refl _);obtain ⟨⟨g0,g1,g2,g3⟩,⟨h0,h1⟩,⟨i0,i1,i2,i3⟩,⟨j0,j1,j2,j3⟩,⟨k0,k1,k2,k3⟩⟩:=T3.cells)
   all_goals
    clear c0 c1 c2 c3 d0 d1 e0 e1 e2 e3 f0 f1 f2 f3 q0 q1 q2 q3
    have bw3:=bw0.trans (hb3.mono (by omega))
    clear T0 H5 H6
    go_wp2
    obtain ⟨Z,hZ,z0,z1,z2,z3⟩:=TZ.cells (N:=w.heap.size) (J:=2) (u:=.slice a3 n3 c3') (v0:=Value.slice (A 0) (N 0) (C 0)) (v1:=Value.slice (A 1) (N 1) (C 1)) (v2:=Value.slice a3 n3 c3') (v3:=Value.slice (A 3) (N 3) (C 3)) T3.2.2 (by omega)
    have hZ':=hZ
    unfold TZ at hZ'
    rw [←hZ']
    clear hZ'
    have HZ:Hid (Z=TZ w3 w.heap.size (w.heap.size+1+1) 2 (.slice a3 n3 c3') (Value.slice (A 0) (N 0) (C 0)) (Value.slice (A 1) (N 1) (C 1)) (Value.slice a3 n3 c3') (Value.slice (A 3) (N 3) (C 3))):=hZ
    clear hZ
    refine bodyPost_ret (v:=.agg #[Value.slice (A 0) (N 0) (C 0),Value.slice (A 1) (N 1) (C 1),Value.slice a3 n3 c3',Value.slice (A 3) (N 3) (C 3)]) (by simp [results,Tryz.results108,go_sem,z0,z1,z2,z3]) rfl ⟨upd A 2 a3,upd N 2 n3,upd C 2 c3',rfl,?_,?_,su (fun ad e=>Nat.le_trans (by omega) (hf3.2.2.1 ad e))⟩
    ·rw [HZ.out,HAD.out]
     exact hB.upd (TZ.below bw3 (Nat.le_refl _) (by omega)) ((TZ.fl hf3 (by omega) (by omega)).mono (by omega))
    ·rw [HZ.out];exact TZ.below bw3 (Nat.le_refl _) (by omega)
 ·obtain ⟨m,hm⟩:∃ m,N 2=m+1:=⟨N 2 - 1,by omega⟩
  obtain ⟨b,off,ha,hc⟩:=(hF.1.later bw0).2.2 hn0
  have hNX:Hid (dz X (some ⟨b,off,.none⟩) (m+1) (L 2)):=by have:=hF.1.later bw0;rw [ha,hm] at this;exact this
  have hlast:=hc m (by omega)
  rw [ha,hm] at c2
  clear hc
  by_cases hq:(L 2)[m]=what
  ·have hq':((L 2)[m] == what)=true:=by simpa using hq
   have HAD:Hid (ni (L 2) what=L 2):=by show _=_;unfold ni;rw [if_pos (by rw [List.getLast?_eq_getElem?,show (L 2).length - 1=m by omega,List.getElem?_eq_getElem (by omega),hq])]
   go_wp2
   go_quiet (fail)
   go_wp2
   obtain ⟨Z,hZ,z0,z1,z2,z3⟩:=TK.cells (X:=X.drewN nq) (v0:=Value.slice (A 0) (N 0) (C 0)) (v1:=Value.slice (A 1) (N 1) (C 1)) (v2:=Value.slice (some ⟨b,off,.none⟩) (m+1) (C 2)) (v3:=Value.slice (A 3) (N 3) (C 3)) (T0.later (below_drewN (Below.refl _ _) nq) (Nat.le_of_eq hs0.symm)).2.2
   have hZ':=hZ
   unfold TK at hZ'
   rw [←hZ']
   clear hZ'
   have HZ:Hid (Z=TK (X.drewN nq) (w.heap.size+1+1) (Value.slice (A 0) (N 0) (C 0)) (Value.slice (A 1) (N 1) (C 1)) (Value.slice (some ⟨b,off,.none⟩) (m+1) (C 2)) (Value.slice (A 3) (N 3) (C 3))):=hZ
   clear hZ
   have bZ:Below w.heap.size w Z:=by rw [HZ.out];exact TK.below (below_drewN bw0 nq) (by omega)
   refine bodyPost_ret (v:=.agg #[Value.slice (A 0) (N 0) (C 0),Value.slice (A 1) (N 1) (C 1),Value.slice (some ⟨b,off,.none⟩) (m+1) (C 2),Value.slice (A 3) (N 3) (C 3)]) (by simp [results,Tryz.results108,go_sem,z0,z1,z2,z3]) rfl ⟨upd A 2 (some ⟨b,off,.none⟩),upd N 2 (m+1),C,rfl,?_,bZ,aap ha hm⟩
   rw [HAD.out]
   have hFz:=hF.later bZ
   rw [ha,hm] at hFz
   exact upd_same C 2▸hB.upd bZ hFz
  ·have hq':((L 2)[m] == what)=false:=by simpa using hq
   obtain ⟨k,hk⟩:∃ k,k=m - 3:=⟨_,rfl⟩
   have hmax:max 0 ((m:Int)+1 - 4)=(k:Int):=by omega
   have hCk:¬(C 2=k):=by omega
   have hkm:k≤m+1:=by omega
   have hkm':m+1 - k≤4:=by omega
   have HK:Hid (k=m - 3):=hk
   have HAD:Hid (ni (L 2) what=(L 2).drop k ++ [what]):=by show _=_;unfold ni;rw [if_neg (by rw [List.getLast?_eq_getElem?,show (L 2).length - 1=m by omega,List.getElem?_eq_getElem (by omega)];simpa using hq)];rw [show (L 2).length - 4=k by omega]
   clear hk
   go_wp2
   go_quiet (fail)
   go_wp2
   have H5:Hid (dz X ((some ⟨b,off+k,.none⟩:Option Addr)) (m+1 - k) ((L 2).drop k)):=hNX.out.drop k hkm
   have H6:Hid (((some ⟨b,off+k,.none⟩:Option Addr))=.none→(C 2 - k)=0):=fun h=>by cases h
   go_region_with (go_at_call 135;refine (yw X (w.heap.size+3) _ hs0 what ((some ⟨b,off+k,.none⟩:Option Addr)) (m+1 - k) (C 2 - k) ((L 2).drop k) H5.out H6.out (by omega)).mono ?_;rintro e w3 ⟨a3,n3,c3',rfl,hf3,hb3⟩;have T3:=T0.later hb3 (Nat.le_refl _);obtain ⟨⟨g0,g1,g2,g3⟩,⟨h0,h1⟩,⟨i0,i1,i2,i3⟩,⟨j0,j1,j2,j3⟩,⟨k0,k1,k2,k3⟩⟩:=T3.cells)
   all_goals
    clear c0 c1 c2 c3 d0 d1 e0 e1 e2 e3 f0 f1 f2 f3 q0 q1 q2 q3
    have bw3:=bw0.trans (hb3.mono (by omega))
    clear T0 H5 H6
    go_wp2
    obtain ⟨Z,hZ,z0,z1,z2,z3⟩:=TZ.cells (N:=w.heap.size) (J:=2) (u:=.slice a3 n3 c3') (v0:=Value.slice (A 0) (N 0) (C 0)) (v1:=Value.slice (A 1) (N 1) (C 1)) (v2:=Value.slice a3 n3 c3') (v3:=Value.slice (A 3) (N 3) (C 3)) T3.2.2 (by omega)
    have hZ':=hZ
    unfold TZ at hZ'
    rw [←hZ']
    clear hZ'
    have HZ:Hid (Z=TZ w3 w.heap.size (w.heap.size+1+1) 2 (.slice a3 n3 c3') (Value.slice (A 0) (N 0) (C 0)) (Value.slice (A 1) (N 1) (C 1)) (Value.slice a3 n3 c3') (Value.slice (A 3) (N 3) (C 3))):=hZ
    clear hZ
    refine bodyPost_ret (v:=.agg #[Value.slice (A 0) (N 0) (C 0),Value.slice (A 1) (N 1) (C 1),Value.slice a3 n3 c3',Value.slice (A 3) (N 3) (C 3)]) (by simp [results,Tryz.results108,go_sem,z0,z1,z2,z3]) rfl ⟨upd A 2 a3,upd N 2 n3,upd C 2 c3',rfl,?_,?_,su (fun ad e=>Nat.le_trans (by omega) (hf3.2.2.1 ad e))⟩
    ·rw [HZ.out,HAD.out]
     exact hB.upd (TZ.below bw3 (Nat.le_refl _) (by omega)) ((TZ.fl hf3 (by omega) (by omega)).mono (by omega))
    ·rw [HZ.out];exact TZ.below bw3 (Nat.le_refl _) (by omega)
end Go.Proofs.YtpkhdihoijkamaaGreatDoor
namespace Go.Proofs.YtpkhdihoijkamaaGreatDoor
open Go.ChangeShapes Go.WideShapes Go.ChangeAt Go.RowKit Go.Deep
attribute [local go_sem ↓] Go.wp_at_zero Go.wp_at_succ
theorem add_3 (A:Nat→Option Addr) (N C:Nat→Nat) (L:Nat→List Int) (what:Int) (lo:Nat) (w:World) (hB:j6 w lo A N C L) (hlo:lo≤w.heap.size) (hL:∀ j,j<4→(L j).length≤900) :
 Calls Tryz.prog 108 #[bx A N C,.agg #[.int .i64 4,.int .i64 what]] w fun e w'=>∃ A' N' C',e=.returned (bx A' N' C')∧j6 w' lo A' N' C' (upd L 3 (ni (L 3) what))∧Below w.heap.size w w'∧Fresh w.heap.size A N A' N':=by
 have hF:=hB 3 (by decide)
 have hlen:=hL 3 (by decide)
 have hln:=hF.1.1
 obtain ⟨bw0,hs0⟩:=Trio.below w (.slice (A 0) (N 0) (C 0)) (.slice (A 1) (N 1) (C 1)) (.slice (A 2) (N 2) (C 2)) (.slice (A 3) (N 3) (C 3)) 4 what
 have T0:=Trio.start w (.slice (A 0) (N 0) (C 0)) (.slice (A 1) (N 1) (C 1)) (.slice (A 2) (N 2) (C 2)) (.slice (A 3) (N 3) (C 3)) 4 what
 unfold bx
 go_enter Tryz.func108,Tryz.ntmps108
 go_wp2_with fail
 refine (aak 4 _).mono ?_
 rintro e w1 ⟨rfl,rfl⟩
 rw [show ∀ v0 v1 v2 v3,((w.alloc (.cells #[v0,v1,v2,v3] 103)).alloc (.cells #[.int .i64 4,.int .i64 what] 171)).alloc (.cells #[.slice .none 0 0,.slice .none 0 0,.slice .none 0 0,.slice .none 0 0] 103)=trioW w v0 v1 v2 v3 4 what from fun _ _ _ _=>rfl]
 generalize hX:trioW w (.slice (A 0) (N 0) (C 0)) (.slice (A 1) (N 1) (C 1)) (.slice (A 2) (N 2) (C 2)) (.slice (A 3) (N 3) (C 3)) 4 what=X at *
 obtain ⟨⟨c0,c1,c2,c3⟩,⟨d0,d1⟩,⟨e0,e1,e2,e3⟩,⟨f0,f1,f2,f3⟩,⟨q0,q1,q2,q3⟩⟩:=T0.cells
 have hcap:=hF.2.2.2
 have hmx:max 0 (-4:Int)=0:=by decide
 by_cases hn0:N 3=0
 ·have hl0:L 3=[]:=List.eq_nil_of_length_eq_zero (by omega)
  rw [hn0] at c3
  have HAD:Hid (ni (L 3) what=[] ++ [what]):=by show _=_;rw [hl0];rfl
  have hnum:∀ a5:Option Addr,dz X a5 0 []:=fun a5=>⟨rfl,by omega,fun h=>absurd rfl h⟩
  by_cases hC0:C 3=0
  ·rw [hC0] at c3
   go_wp2
   go_quiet (fail)
   go_wp2
   have H5:Hid (dz X (A 3) (0) ([])):=hnum _
   have H6:Hid ((A 3)=.none→(0)=0):=fun _=>rfl
   go_region_with (go_at_call 135;refine (yw X (w.heap.size+3) _ hs0 what (A 3) (0) (0) ([]) H5.out H6.out (by omega)).mono ?_;rintro e w3 ⟨a3,n3,c3',rfl,hf3,hb3⟩;have T3:=T0.later hb3 (Nat.le_refl _);obtain ⟨⟨g0,g1,g2,g3⟩,⟨h0,h1⟩,⟨i0,i1,i2,i3⟩,⟨j0,j1,j2,j3⟩,⟨k0,k1,k2,k3⟩⟩:=T3.cells)
   all_goals
    clear c0 c1 c2 c3 d0 d1 e0 e1 e2 e3 f0 f1 f2 f3 q0 q1 q2 q3
    have bw3:=bw0.trans (hb3.mono (by omega))
    clear T0 H5 H6
    go_wp2
    obtain ⟨Z,hZ,z0,z1,z2,z3⟩:=TZ.cells (N:=w.heap.size) (J:=3) (u:=.slice a3 n3 c3') (v0:=Value.slice (A 0) (N 0) (C 0)) (v1:=Value.slice (A 1) (N 1) (C 1)) (v2:=Value.slice (A 2) (N 2) (C 2)) (v3:=Value.slice a3 n3 c3') T3.2.2 (by omega)
    have hZ':=hZ
    unfold TZ at hZ'
    rw [←hZ']
    clear hZ'
    have HZ:Hid (Z=TZ w3 w.heap.size (w.heap.size+1+1) 3 (.slice a3 n3 c3') (Value.slice (A 0) (N 0) (C 0)) (Value.slice (A 1) (N 1) (C 1)) (Value.slice (A 2) (N 2) (C 2)) (Value.slice a3 n3 c3')):=hZ
    clear hZ
    refine bodyPost_ret (v:=.agg #[Value.slice (A 0) (N 0) (C 0),Value.slice (A 1) (N 1) (C 1),Value.slice (A 2) (N 2) (C 2),Value.slice a3 n3 c3']) (by simp [results,Tryz.results108,go_sem,z0,z1,z2,z3]) rfl ⟨upd A 3 a3,upd N 3 n3,upd C 3 c3',rfl,?_,?_,su (fun ad e=>Nat.le_trans (by omega) (hf3.2.2.1 ad e))⟩
    ·rw [HZ.out,HAD.out]
     exact hB.upd (TZ.below bw3 (Nat.le_refl _) (by omega)) ((TZ.fl hf3 (by omega) (by omega)).mono (by omega))
    ·rw [HZ.out];exact TZ.below bw3 (Nat.le_refl _) (by omega)
  ·go_wp2
   go_quiet (fail)
   go_wp2
   have H5:Hid (dz X (A 3) (0) ([])):=hnum _
   have H6:Hid ((A 3)=.none→(C 3)=0):=hF.2.1
   go_region_with (go_at_call 135;refine (yw X (w.heap.size+3) _ hs0 what (A 3) (0) (C 3) ([]) H5.out H6.out (by omega)).mono ?_;rintro e w3 ⟨a3,n3,c3',rfl,hf3,hb3⟩;have T3:=T0.later hb3 (Nat.le_refl _);obtain ⟨⟨g0,g1,g2,g3⟩,⟨h0,h1⟩,⟨i0,i1,i2,i3⟩,⟨j0,j1,j2,j3⟩,⟨k0,k1,k2,k3⟩⟩:=T3.cells)
   all_goals
    clear c0 c1 c2 c3 d0 d1 e0 e1 e2 e3 f0 f1 f2 f3 q0 q1 q2 q3
    have bw3:=bw0.trans (hb3.mono (by omega))
    clear T0 H5 H6
    go_wp2
    obtain ⟨Z,hZ,z0,z1,z2,z3⟩:=TZ.cells (N:=w.heap.size) (J:=3) (u:=.slice a3 n3 c3') (v0:=Value.slice (A 0) (N 0) (C 0)) (v1:=Value.slice (A 1) (N 1) (C 1)) (v2:=Value.slice (A 2) (N 2) (C 2)) (v3:=Value.slice a3 n3 c3') T3.2.2 (by omega)
    have hZ':=hZ
    unfold TZ at hZ'
    rw [←hZ']
    clear hZ'
    have HZ:Hid (Z=TZ w3 w.heap.size (w.heap.size+1+1) 3 (.slice a3 n3 c3') (Value.slice (A 0) (N 0) (C 0)) (Value.slice (A 1) (N 1) (C 1)) (Value.slice (A 2) (N 2) (C 2)) (Value.slice a3 n3 c3')):=hZ
    clear hZ
    refine bodyPost_ret (v:=.agg #[Value.slice (A 0) (N 0) (C 0),Value.slice (A 1) (N 1) (C 1),Value.slice (A 2) (N 2) (C 2),Value.slice a3 n3 c3']) (by simp [results,Tryz.results108,go_sem,z0,z1,z2,z3]) rfl ⟨upd A 3 a3,upd N 3 n3,upd C 3 c3',rfl,?_,?_,su (fun ad e=>Nat.le_trans (by omega) (hf3.2.2.1 ad e))⟩
    ·rw [HZ.out,HAD.out]
     exact hB.upd (TZ.below bw3 (Nat.le_refl _) (by omega)) ((TZ.fl hf3 (by omega) (by omega)).mono (by omega))
    ·rw [HZ.out];exact TZ.below bw3 (Nat.le_refl _) (by omega)
 ·obtain ⟨m,hm⟩:∃ m,N 3=m+1:=⟨N 3 - 1,by omega⟩
  obtain ⟨b,off,ha,hc⟩:=(hF.1.later bw0).2.2 hn0
  have hNX:Hid (dz X (some ⟨b,off,.none⟩) (m+1) (L 3)):=by have:=hF.1.later bw0;rw [ha,hm] at this;exact this
  have hlast:=hc m (by omega)
  rw [ha,hm] at c3
  clear hc
  by_cases hq:(L 3)[m]=what
  ·have hq':((L 3)[m] == what)=true:=by simpa using hq
   have HAD:Hid (ni (L 3) what=L 3):=by show _=_;unfold ni;rw [if_pos (by rw [List.getLast?_eq_getElem?,show (L 3).length - 1=m by omega,List.getElem?_eq_getElem (by omega),hq])]
   go_wp2
   go_quiet (fail)
   go_wp2
   obtain ⟨Z,hZ,z0,z1,z2,z3⟩:=TK.cells (X:=X.drewN nq) (v0:=Value.slice (A 0) (N 0) (C 0)) (v1:=Value.slice (A 1) (N 1) (C 1)) (v2:=Value.slice (A 2) (N 2) (C 2)) (v3:=Value.slice (some ⟨b,off,.none⟩) (m+1) (C 3)) (T0.later (below_drewN (Below.refl _ _) nq) (Nat.le_of_eq hs0.symm)).2.2
   have hZ':=hZ
   unfold TK at hZ'
   rw [←hZ']
   clear hZ'
   have HZ:Hid (Z=TK (X.drewN nq) (w.heap.size+1+1) (Value.slice (A 0) (N 0) (C 0)) (Value.slice (A 1) (N 1) (C 1)) (Value.slice (A 2) (N 2) (C 2)) (Value.slice (some ⟨b,off,.none⟩) (m+1) (C 3))):=hZ
   clear hZ
   have bZ:Below w.heap.size w Z:=by rw [HZ.out];exact TK.below (below_drewN bw0 nq) (by omega)
   refine bodyPost_ret (v:=.agg #[Value.slice (A 0) (N 0) (C 0),Value.slice (A 1) (N 1) (C 1),Value.slice (A 2) (N 2) (C 2),Value.slice (some ⟨b,off,.none⟩) (m+1) (C 3)]) (by simp [results,Tryz.results108,go_sem,z0,z1,z2,z3]) rfl ⟨upd A 3 (some ⟨b,off,.none⟩),upd N 3 (m+1),C,rfl,?_,bZ,aap ha hm⟩
   rw [HAD.out]
   have hFz:=hF.later bZ
   rw [ha,hm] at hFz
   exact upd_same C 3▸hB.upd bZ hFz
  ·have hq':((L 3)[m] == what)=false:=by simpa using hq
   obtain ⟨k,hk⟩:∃ k,k=m - 3:=⟨_,rfl⟩
   have hmax:max 0 ((m:Int)+1 - 4)=(k:Int):=by omega
   have hCk:¬(C 3=k):=by omega
   have hkm:k≤m+1:=by omega
   have hkm':m+1 - k≤4:=by omega
   have HK:Hid (k=m - 3):=hk
   have HAD:Hid (ni (L 3) what=(L 3).drop k ++ [what]):=by show _=_;unfold ni;rw [if_neg (by rw [List.getLast?_eq_getElem?,show (L 3).length - 1=m by omega,List.getElem?_eq_getElem (by omega)];simpa using hq)];rw [show (L 3).length - 4=k by omega]
   clear hk
   go_wp2
   go_quiet (fail)
   go_wp2
   have H5:Hid (dz X ((some ⟨b,off+k,.none⟩:Option Addr)) (m+1 - k) ((L 3).drop k)):=hNX.out.drop k hkm
   have H6:Hid (((some ⟨b,off+k,.none⟩:Option Addr))=.none→(C 3 - k)=0):=fun h=>by cases h
   go_region_with (go_at_call 135;refine (yw X (w.heap.size+3) _ hs0 what ((some ⟨b,off+k,.none⟩:Option Addr)) (m+1 - k) (C 3 - k) ((L 3).drop k) H5.out H6.out (by omega)).mono ?_;rintro e w3 ⟨a3,n3,c3',rfl,hf3,hb3⟩;have T3:=T0.later hb3 (Nat.le_refl _);obtain ⟨⟨g0,g1,g2,g3⟩,⟨h0,h1⟩,⟨i0,i1,i2,i3⟩,⟨j0,j1,j2,j3⟩,⟨k0,k1,k2,k3⟩⟩:=T3.cells)
   all_goals
    clear c0 c1 c2 c3 d0 d1 e0 e1 e2 e3 f0 f1 f2 f3 q0 q1 q2 q3
    have bw3:=bw0.trans (hb3.mono (by omega))
    clear T0 H5 H6
    go_wp2
    obtain ⟨Z,hZ,z0,z1,z2,z3⟩:=TZ.cells (N:=w.heap.size) (J:=3) (u:=.slice a3 n3 c3') (v0:=Value.slice (A 0) (N 0) (C 0)) (v1:=Value.slice (A 1) (N 1) (C 1)) (v2:=Value.slice (A 2) (N 2) (C 2)) (v3:=Value.slice a3 n3 c3') T3.2.2 (by omega)
    have hZ':=hZ
    unfold TZ at hZ'
    rw [←hZ']
    clear hZ'
    have HZ:Hid (Z=TZ w3 w.heap.size (w.heap.size+1+1) 3 (.slice a3 n3 c3') (Value.slice (A 0) (N 0) (C 0)) (Value.slice (A 1) (N 1) (C 1)) (Value.slice (A 2) (N 2) (C 2)) (Value.slice a3 n3 c3')):=hZ
    clear hZ
    refine bodyPost_ret (v:=.agg #[Value.slice (A 0) (N 0) (C 0),Value.slice (A 1) (N 1) (C 1),Value.slice (A 2) (N 2) (C 2),Value.slice a3 n3 c3']) (by simp [results,Tryz.results108,go_sem,z0,z1,z2,z3]) rfl ⟨upd A 3 a3,upd N 3 n3,upd C 3 c3',rfl,?_,?_,su (fun ad e=>Nat.le_trans (by omega) (hf3.2.2.1 ad e))⟩
    ·rw [HZ.out,HAD.out]
     exact hB.upd (TZ.below bw3 (Nat.le_refl _) (by omega)) ((TZ.fl hf3 (by omega) (by omega)).mono (by omega))
    ·rw [HZ.out];exact TZ.below bw3 (Nat.le_refl _) (by omega)
end Go.Proofs.YtpkhdihoijkamaaGreatDoor
namespace Go.Proofs.YtpkhdihoijkamaaGreatDoor
open Go.ChangeShapes Go.WideShapes Go.ChangeAt Go.RowKit Go.Deep
theorem add_fresh (A:Nat→Option Addr) (N C:Nat→Nat) (L:Nat→List Int) (j:Nat) (who what:Int) (lo:Nat) (w:World) (hj:j<4) (hw:who=(j:Int)+1) (hB:j6 w lo A N C L) (hlo:lo≤w.heap.size) (hL:∀ j,j<4→(L j).length≤900) :
 Calls Tryz.prog 108 #[bx A N C,.agg #[.int .i64 who,.int .i64 what]] w fun e w'=>∃ A' N' C',e=.returned (bx A' N' C')∧j6 w' lo A' N' C' (upd L j (ni (L j) what))∧Below w.heap.size w w'∧Fresh w.heap.size A N A' N':=by
 subst hw
 rcases (by omega:j=0∨j=1∨j=2∨j=3) with rfl|rfl|rfl|rfl
 ·exact add_0 A N C L what lo w hB hlo hL
 ·exact add_1 A N C L what lo w hB hlo hL
 ·exact add_2 A N C L what lo w hB hlo hL
 ·exact add_3 A N C L what lo w hB hlo hL
def PBox (w:World) (M:Nat) (A:Nat→Option Addr) (N C:Nat→Nat):Prop:=w.heap[M]? = some (.cells #[.slice (A 0) (N 0) (C 0),.slice (A 1) (N 1) (C 1),.slice (A 2) (N 2) (C 2),.slice (A 3) (N 3) (C 3)] 103 (0,0))
theorem PBox.cells {X:World} {M:Nat} {A:Nat→Option Addr} {N C:Nat→Nat} (h:PBox X M A N C) :
 (X.cell? ⟨M,0,.none⟩=some (.slice (A 0) (N 0) (C 0))∧X.cell? ⟨M,1,.none⟩=some (.slice (A 1) (N 1) (C 1))∧X.cell? ⟨M,2,.none⟩=some (.slice (A 2) (N 2) (C 2))∧X.cell? ⟨M,3,.none⟩=some (.slice (A 3) (N 3) (C 3))) ∧
 (X.frozen? ⟨M,0,.none⟩=false∧X.frozen? ⟨M,1,.none⟩=false∧X.frozen? ⟨M,2,.none⟩=false∧X.frozen? ⟨M,3,.none⟩=false):=by
 unfold PBox at h
 simp [World.cell?,World.frozen?,h]
theorem PBox.at {X:World} {M:Nat} {A:Nat→Option Addr} {N C:Nat→Nat} (h:PBox X M A N C) (j:Nat) (hj:j<4):X.cell? ⟨M,j,.none⟩=some (.slice (A j) (N j) (C j))∧X.frozen? ⟨M,j,.none⟩=false:=by
 obtain ⟨⟨c0,c1,c2,c3⟩,⟨f0,f1,f2,f3⟩⟩:=h.cells
 rcases (by omega:j=0∨j=1∨j=2∨j=3) with rfl|rfl|rfl|rfl
 ·exact ⟨c0,f0⟩
 ·exact ⟨c1,f1⟩
 ·exact ⟨c2,f2⟩
 ·exact ⟨c3,f3⟩
theorem PBox.later {X X':World} {M B:Nat} {A:Nat→Option Addr} {N C:Nat→Nat} (h:PBox X M A N C) (hb:Below B X X') (hB:M<B):PBox X' M A N C:=by
 unfold PBox
 rw [hb.block M hB]
 exact h
theorem PBox.set {X:World} {M:Nat} {A:Nat→Option Addr} {N C:Nat→Nat} (h:PBox X M A N C) (j:Nat) (hj:j<4) (a:Option Addr) (n c:Nat):PBox (X.setCell ⟨M,j,.none⟩ (.slice a n c)) M (upd A j a) (upd N j n) (upd C j c):=by
 have h':=heap_setCell_same _ M j _ _ (.slice a n c) h
 unfold PBox
 rw [h']
 rcases (by omega:j=0∨j=1∨j=2∨j=3) with rfl|rfl|rfl|rfl <;> rfl
theorem fl_one (w:World) (lo:Nat) (x:Int) (hlo:lo≤w.heap.size):Fl (w.alloc (.cells #[.int .i64 x] 3)) lo (some ⟨w.heap.size,0,.none⟩) 1 1 [x]:=by
 refine ⟨⟨rfl,by decide,fun _=>⟨w.heap.size,0,rfl,fun i hi=>?_⟩⟩,(fun h=>by cases h),(fun ad h=>by cases h;exact hlo),by decide⟩
 have:i=0:=by simp at hi;omega
 subst this
 have h0:=heap_alloc_new w (.cells #[.int .i64 x] 3)
 generalize w.alloc (.cells #[.int .i64 x] 3)=Y at *
 simp [World.cell?,h0]
def xm:Nat→List Int:=fun _=>[4]
theorem power_any (w:World):Calls Tryz.prog 67 #[] w fun e w'=>∃ A' N' C',e=.returned (bx A' N' C')∧j6 w' w.heap.size A' N' C' xm∧Below w.heap.size w w':=by
 have bw0:Below w.heap.size w ((w.alloc (.cells #[.slice .none 0 0,.slice .none 0 0,.slice .none 0 0,.slice .none 0 0] 103)).alloc (.cells #[.slice .none 0 0,.slice .none 0 0,.slice .none 0 0,.slice .none 0 0] 103)):=((Below.refl _ _).alloc (Nat.le_refl _) _).alloc (by simp) _
 have hs0:((w.alloc (.cells #[.slice .none 0 0,.slice .none 0 0,.slice .none 0 0,.slice .none 0 0] 103)).alloc (.cells #[.slice .none 0 0,.slice .none 0 0,.slice .none 0 0,.slice .none 0 0] 103)).heap.size=w.heap.size+2:=by simp
 have D0:=Duo.start w (.slice .none 0 0) (.slice .none 0 0) (.slice .none 0 0) (.slice .none 0 0)
 go_enter Tryz.func67,Tryz.ntmps67
 go_wp2
 go_loopw [3] (fun i wr=>∃ (k:Nat) (A:Nat→Option Addr) (N C:Nat→Nat),k≤4∧i=.int .i64 k∧PBox wr (w.heap.size+1) A N C∧PBox wr w.heap.size (fun _=>.none) (fun _=>0) (fun _=>0)∧(∀ j,j<k→Fl wr (w.heap.size+2) (A j) (N j) (C j) [4])∧Below w.heap.size w wr∧w.heap.size+2≤wr.heap.size) (fun i _=>4 - (intOf i).toNat)
 case atStart=>exact ⟨0,fun _=>.none,fun _=>0,fun _=>0,by decide,rfl,D0.2,D0.1,fun j hj=>absurd hj (Nat.not_lt_zero _),bw0,Nat.le_of_eq hs0.symm⟩
 case round =>
  obtain ⟨k,A,N,C,hk,rfl,hb1,hb0,hf,bw,hsz⟩:=hrel
  by_cases hlt:k<4
  ·obtain ⟨ck,fk⟩:=hb1.at k hlt
   have hki:(k:Int)<4:=by omega
   have bal:Below wr.heap.size wr (wr.alloc (.cells #[.int .i64 4] 3)):=(Below.refl _ _).alloc (Nat.le_refl _) _
   have ck':=cell_later bal ck
   have fk':(wr.alloc (.cells #[.int .i64 4] 3)).frozen? ⟨w.heap.size+1,k,.none⟩=false:=by rw [World.frozen?_of_block (w:=wr) (bal.block (w.heap.size+1) (by omega))];exact fk
   have HB1:Hid (PBox wr (w.heap.size+1) A N C):=hb1
   have HB0:Hid (PBox wr w.heap.size (fun _=>.none) (fun _=>0) (fun _=>0)):=hb0
   clear hb1 hb0
   go_wp2
   go_roundw
   case rel =>
    refine ⟨k+1,upd A k (some ⟨wr.heap.size,0,.none⟩),upd N k 1,upd C k 1,by omega,by go_num,(HB1.out.later bal (by omega)).set k hlt _ _ _,?_,?_,(bw.alloc bw.size _).setCell (by show w.heap.size≤w.heap.size+1;omega) _,?_⟩
    ·exact (HB0.out.later bal (by omega)).later ((Below.refl (w.heap.size+1) _).setCell (by exact Nat.le_refl _) _) (by omega)
    ·intro j hj
     unfold upd
     by_cases e:j=k
     ·simp only [if_pos e]
      exact (fl_one wr (w.heap.size+2) 4 hsz).set _ (by show w.heap.size+1<w.heap.size+2;omega) _
     ·simp only [if_neg e]
      exact ((hf j (by omega)).later bal).set _ (by show w.heap.size+1<w.heap.size+2;omega) _
    ·have h1:=bal.size
     have h2:=((Below.refl (w.heap.size+1) (wr.alloc (.cells #[.int .i64 4] 3))).setCell (p:=⟨w.heap.size+1,k,.none⟩) (by exact Nat.le_refl _) (.slice (some ⟨wr.heap.size,0,.none⟩) 1 1)).size
     omega
   case measure=>simp [intOf];omega
  ·have hk4:k=4:=by omega
   subst hk4
   obtain ⟨⟨c0,c1,c2,c3⟩,⟨f0,f1,f2,f3⟩⟩:=hb1.cells
   obtain ⟨⟨e0,e1,e2,e3⟩,⟨q0,q1,q2,q3⟩⟩:=hb0.cells
   have HB0:Hid (PBox wr w.heap.size (fun _=>.none) (fun _=>0) (fun _=>0)):=hb0
   clear hb0
   go_wp2
   obtain ⟨Z,hZ,z0,z1,z2,z3⟩:=TK.cells (X:=wr) (M:=w.heap.size) (v0:=.slice (A 0) (N 0) (C 0)) (v1:=.slice (A 1) (N 1) (C 1)) (v2:=.slice (A 2) (N 2) (C 2)) (v3:=.slice (A 3) (N 3) (C 3)) HB0.out
   have bZ:Below w.heap.size w Z:=by rw [hZ];exact TK.below bw (Nat.le_refl _)
   have fZ:∀ j,j<4→Fl Z (w.heap.size+2) (A j) (N j) (C j) [4]:=by rw [hZ];exact fun j hj=>TK.fl (hf j hj) (by omega)
   have hZ':=hZ
   unfold TK at hZ'
   rw [←hZ']
   clear hZ' hZ
   refine bodyPost_ret (v:=bx A N C) (by simp [results,Tryz.results67,go_sem,z0,z1,z2,z3,bx]) rfl ⟨A,N,C,rfl,fun j hj=>(fZ j hj).mono (by omega),bZ⟩
end Go.Proofs.YtpkhdihoijkamaaGreatDoor
