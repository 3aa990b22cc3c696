/- Several texts of this seat in one: ORes, ORel, ODo, OLess. No statement of the seat is proved here. -/
import Derived.Test.YtpkhdihoijkamaaGreatDoorZA20
import Derived.Test.YtpkhdihoijkamaaGreatDoorZA23
import Derived.Test.YtpkhdihoijkamaaGreatDoorZA09
import Derived.Deep.RegionHeld3
import Derived.Deep.DeepCutAuto
set_option maxHeartbeats 8000000
set_option maxRecDepth 100000
namespace Go.Proofs.YtpkhdihoijkamaaGreatDoor
open Go.ChangeShapes Go.WideShapes Go.ChangeAt Go.RowKit Go.Deep
theorem reserve_any (g t h:Int) (a:Option Addr) (n c:Nat) (y:Bool) (l:List (Int × Int)) (op who key new kind at':Int) (st:Bool) (da wa:ByteArray) (w:World) (hr:Row w a n l) :
 Calls Tryz.prog 130 #[stV g a n c t h y,cmV op who key new kind at' st da wa] w fun e w'=>OutIs (vk g t h y l who key kind) w.heap.size a n e w'∧Below w.heap.size w w':=by
 obtain ⟨X,hX,bX,sX,S0,C0,R0⟩:=aa9 w g a n c t h y op who key new kind at' st da wa
 obtain ⟨⟨c0,c1,c2,c3,c4⟩,_⟩:=S0.cells
 obtain ⟨d0,d1,d2,d3,d4,d5,d6,d7,d8⟩:=C0.cells
 go_enter Tryz.func130,Tryz.ntmps130
 go_wp2_with fail
 rw [←hX]
 clear hX c0 c1 c2 c3 c4 d0 d1 d2 d3 d4 d5 d6 d7 d8
 refine (ac3 g t h a n c y l op who key new kind at' st da wa X (hr.later bX)).mono ?_
 rintro e w1 ⟨rfl,hb1⟩
 have bw:=bX.trans (hb1.mono bX.size)
 have hs1:=hb1.size
 have S:=S0.later hb1 (by omega)
 have C:=C0.later hb1 (by omega)
 have R:=R0.later hb1 (by omega)
 clear S0 C0 R0 hb1 bX
 cases hP:uq l who key with
 | false =>
   have HS:Hid (vk g t h y l who key kind=refused 4):=by show _=_;unfold vk;rw [if_pos hP]
   clear hP S C
   go_wp2_with fail
   refine (zh 4 w1).mono ?_
   rintro e wz ⟨rfl,hbz⟩
   have Rz:=R.later hbz (by omega)
   have bz:=bw.trans (hbz.mono bw.size)
   clear R bw
   obtain ⟨⟨e0,e1,e2,e3,e4⟩,⟨q0,q1,q2,q3,q4⟩⟩:=Rz.cells
   go_wp2
   obtain ⟨Z,hZ,z0,z1,z2,z3,z4⟩:=Z5.cells (X:=wz) (v0:=.int .i64 0) (v1:=.slice .none 0 0) (v2:=.int .i64 0) (v3:=.int .i64 0) (v4:=.bool false) Rz
   have bZ:Below w.heap.size w Z:=by rw [hZ];exact Z5.below bz (by omega)
   unfold Z5 at hZ
   rw [←hZ]
   clear hZ
   exact bodyPost_ret (v:=.tuple #[.agg #[.int .i64 0,.slice .none 0 0,.int .i64 0,.int .i64 0,.bool false],.slice .none 0 0,.iface 96 (.int .i64 4)]) (by simp [results,Tryz.results130,go_sem,z0,z1,z2,z3,z4]) rfl (And.intro (by rw [HS.out];exact ⟨_,_,_,_,_,_,rfl,kv _,kv _,mf,mf⟩) bZ)
 | true =>
   have HP:Hid (¬uq l who key=false):=by show ¬_;rw [hP];decide
   clear hP
   by_cases h0:t=0
   ·have HS:Hid (vk g t h y l who key kind=⟨g,l,kind,qm kind who,y,[],0⟩):=by show _=_;unfold vk;rw [if_neg HP.out,if_pos h0]
    have h0':(t == 0)=true:=by simpa using h0
    clear h0
    obtain ⟨⟨c0,c1,c2,c3,c4⟩,_⟩:=S.cells
    obtain ⟨d0,d1,d2,d3,d4,d5,d6,d7,d8⟩:=C.cells
    go_wp2_with fail
    clear c0 c1 c2 c3 c4 d0 d1 d2 d3 d4 d5 d6 d7 d8
    refine (heldBy_any g t h a n c y op who key new kind at' st da wa w1).mono ?_
    rintro e w2 ⟨rfl,hb2⟩
    have bw2:=bw.trans (hb2.mono bw.size)
    have R2:=R.later hb2 (by omega)
    clear S C R
    have hrow:=hr.later bw2
    obtain ⟨⟨e0,e1,e2,e3,e4⟩,⟨q0,q1,q2,q3,q4⟩⟩:=R2.cells
    have HR:Hid (Row w a n l):=hr
    go_wp2
    obtain ⟨Z,hZ,z0,z1,z2,z3,z4⟩:=Z5.cells (X:=w2) (v0:=.int .i64 g) (v1:=.slice a n c) (v2:=.int .i64 kind) (v3:=.int .i64 (qm kind who)) (v4:=.bool y) R2
    have bZ:Below w.heap.size w Z:=by rw [hZ];exact Z5.below bw2 (by omega)
    unfold Z5 at hZ
    rw [←hZ]
    clear hZ
    exact bodyPost_ret (v:=.tuple #[.agg #[.int .i64 g,.slice a n c,.int .i64 kind,.int .i64 (qm kind who),.bool y],.slice .none 0 0,.nilIface]) (by simp [results,Tryz.results130,go_sem,z0,z1,z2,z3,z4]) rfl (And.intro (by rw [HS.out];exact ⟨a,n,c,_,_,_,rfl,HR.out.later bZ,kv _,aba,mf⟩) bZ)
   ·have h0':(t == 0)=false:=by simpa using h0
    obtain ⟨⟨c0,c1,c2,c3,c4⟩,_⟩:=S.cells
    obtain ⟨d0,d1,d2,d3,d4,d5,d6,d7,d8⟩:=C.cells
    go_wp2_with fail
    clear c0 c1 c2 c3 c4 d0 d1 d2 d3 d4 d5 d6 d7 d8
    refine (ab8 g t h a n c y l who w1 (hr.later bw)).mono ?_
    rintro e w2 ⟨rfl,hbn⟩
    have bw:=bw.trans (hbn.mono bw.size)
    have hsn:=hbn.size
    have S:=S.later hbn (by omega)
    have C:=C.later hbn (by omega)
    have R:=R.later hbn (by omega)
    clear hbn
    cases hH:qy t h l who with
    | false =>
      have HS:Hid (vk g t h y l who key kind=refused 4):=by show _=_;unfold vk;rw [if_neg HP.out,if_neg h0,if_pos (.inl hH)]
      clear hH h0
      obtain ⟨⟨c0,c1,c2,c3,c4⟩,_⟩:=S.cells
      obtain ⟨d0,d1,d2,d3,d4,d5,d6,d7,d8⟩:=C.cells
      go_wp2_with fail
      clear c0 c1 c2 c3 c4 d0 d1 d2 d3 d4 d5 d6 d7 d8
      refine (zh 4 w2).mono ?_
      rintro e wz ⟨rfl,hbz⟩
      have Rz:=R.later hbz (by omega)
      have bz:=bw.trans (hbz.mono bw.size)
      clear R bw
      obtain ⟨⟨e0,e1,e2,e3,e4⟩,⟨q0,q1,q2,q3,q4⟩⟩:=Rz.cells
      go_wp2
      obtain ⟨Z,hZ,z0,z1,z2,z3,z4⟩:=Z5.cells (X:=wz) (v0:=.int .i64 0) (v1:=.slice .none 0 0) (v2:=.int .i64 0) (v3:=.int .i64 0) (v4:=.bool false) Rz
      have bZ:Below w.heap.size w Z:=by rw [hZ];exact Z5.below bz (by omega)
      unfold Z5 at hZ
      rw [←hZ]
      clear hZ
      exact bodyPost_ret (v:=.tuple #[.agg #[.int .i64 0,.slice .none 0 0,.int .i64 0,.int .i64 0,.bool false],.slice .none 0 0,.iface 96 (.int .i64 4)]) (by simp [results,Tryz.results130,go_sem,z0,z1,z2,z3,z4]) rfl (And.intro (by rw [HS.out];exact ⟨_,_,_,_,_,_,rfl,kv _,kv _,mf,mf⟩) bZ)
    | true =>
      by_cases hk:t=kind
      ·have HS:Hid (vk g t h y l who key kind=⟨g,l,t,h,y,[],0⟩):=by show _=_;unfold vk;rw [if_neg HP.out,if_neg h0,if_neg (by rw [hH];simp [hk])]
       have hk':(t != kind)=false:=by simpa using hk
       clear hH h0 hk
       obtain ⟨⟨c0,c1,c2,c3,c4⟩,_⟩:=S.cells
       obtain ⟨d0,d1,d2,d3,d4,d5,d6,d7,d8⟩:=C.cells
       obtain ⟨⟨e0,e1,e2,e3,e4⟩,⟨q0,q1,q2,q3,q4⟩⟩:=R.cells
       have HR:Hid (Row w a n l):=hr
       go_wp2
       obtain ⟨Z,hZ,z0,z1,z2,z3,z4⟩:=Z5.cells (X:=w2) (v0:=.int .i64 g) (v1:=.slice a n c) (v2:=.int .i64 t) (v3:=.int .i64 h) (v4:=.bool y) R
       have bZ:Below w.heap.size w Z:=by rw [hZ];exact Z5.below bw (by omega)
       unfold Z5 at hZ
       rw [←hZ]
       clear hZ
       exact bodyPost_ret (v:=.tuple #[.agg #[.int .i64 g,.slice a n c,.int .i64 t,.int .i64 h,.bool y],.slice .none 0 0,.nilIface]) (by simp [results,Tryz.results130,go_sem,z0,z1,z2,z3,z4]) rfl (And.intro (by rw [HS.out];exact ⟨a,n,c,_,_,_,rfl,HR.out.later bZ,kv _,aba,mf⟩) bZ)
      ·have HS:Hid (vk g t h y l who key kind=refused 4):=by show _=_;unfold vk;rw [if_neg HP.out,if_neg h0,if_pos (.inr hk)]
       have hk':(t != kind)=true:=by simpa using hk
       clear hH h0 hk
       obtain ⟨⟨c0,c1,c2,c3,c4⟩,_⟩:=S.cells
       obtain ⟨d0,d1,d2,d3,d4,d5,d6,d7,d8⟩:=C.cells
       go_wp2_with fail
       clear c0 c1 c2 c3 c4 d0 d1 d2 d3 d4 d5 d6 d7 d8
       refine (zh 4 w2).mono ?_
       rintro e wz ⟨rfl,hbz⟩
       have Rz:=R.later hbz (by omega)
       have bz:=bw.trans (hbz.mono bw.size)
       clear R bw
       obtain ⟨⟨e0,e1,e2,e3,e4⟩,⟨q0,q1,q2,q3,q4⟩⟩:=Rz.cells
       go_wp2
       obtain ⟨Z,hZ,z0,z1,z2,z3,z4⟩:=Z5.cells (X:=wz) (v0:=.int .i64 0) (v1:=.slice .none 0 0) (v2:=.int .i64 0) (v3:=.int .i64 0) (v4:=.bool false) Rz
       have bZ:Below w.heap.size w Z:=by rw [hZ];exact Z5.below bz (by omega)
       unfold Z5 at hZ
       rw [←hZ]
       clear hZ
       exact bodyPost_ret (v:=.tuple #[.agg #[.int .i64 0,.slice .none 0 0,.int .i64 0,.int .i64 0,.bool false],.slice .none 0 0,.iface 96 (.int .i64 4)]) (by simp [results,Tryz.results130,go_sem,z0,z1,z2,z3,z4]) rfl (And.intro (by rw [HS.out];exact ⟨_,_,_,_,_,_,rfl,kv _,kv _,mf,mf⟩) bZ)
theorem release_any (g t h:Int) (a:Option Addr) (n c:Nat) (y:Bool) (l:List (Int × Int)) (op who key new kind at':Int) (st:Bool) (da wa:ByteArray) (w:World) (hr:Row w a n l) (hn:n≤1000) :
 Calls Tryz.prog 131 #[stV g a n c t h y,cmV op who key new kind at' st da wa] w fun e w'=>OutIs (uy g t h y l who key kind) w.heap.size a n e w'∧Below w.heap.size w w':=by
 obtain ⟨X,hX,bX,sX,S0,C0,R0⟩:=aa9 w g a n c t h y op who key new kind at' st da wa
 obtain ⟨⟨c0,c1,c2,c3,c4⟩,_⟩:=S0.cells
 obtain ⟨d0,d1,d2,d3,d4,d5,d6,d7,d8⟩:=C0.cells
 go_enter Tryz.func131,Tryz.ntmps131
 go_wp2_with fail
 rw [←hX]
 clear hX c0 c1 c2 c3 c4 d0 d1 d2 d3 d4 d5 d6 d7 d8
 refine (ac3 g t h a n c y l op who key new kind at' st da wa X (hr.later bX)).mono ?_
 rintro e w1 ⟨rfl,hb1⟩
 have bw:=bX.trans (hb1.mono bX.size)
 have hs1:=hb1.size
 have S:=S0.later hb1 (by omega)
 have C:=C0.later hb1 (by omega)
 have R:=R0.later hb1 (by omega)
 clear S0 C0 R0 hb1 bX
 cases hP:uq l who key with
 | false =>
   have HS:Hid (uy g t h y l who key kind=refused 4):=by show _=_;unfold uy;rw [if_pos hP]
   clear hP S C
   go_wp2_with fail
   refine (zh 4 w1).mono ?_
   rintro e wz ⟨rfl,hbz⟩
   have Rz:=R.later hbz (by omega)
   have bz:=bw.trans (hbz.mono bw.size)
   clear R bw
   obtain ⟨⟨e0,e1,e2,e3,e4⟩,⟨q0,q1,q2,q3,q4⟩⟩:=Rz.cells
   go_wp2
   obtain ⟨Z,hZ,z0,z1,z2,z3,z4⟩:=Z5.cells (X:=wz) (v0:=.int .i64 0) (v1:=.slice .none 0 0) (v2:=.int .i64 0) (v3:=.int .i64 0) (v4:=.bool false) Rz
   have bZ:Below w.heap.size w Z:=by rw [hZ];exact Z5.below bz (by omega)
   unfold Z5 at hZ
   rw [←hZ]
   clear hZ
   exact bodyPost_ret (v:=.tuple #[.agg #[.int .i64 0,.slice .none 0 0,.int .i64 0,.int .i64 0,.bool false],.slice .none 0 0,.iface 96 (.int .i64 4)]) (by simp [results,Tryz.results131,go_sem,z0,z1,z2,z3,z4]) rfl (And.intro (by rw [HS.out];exact ⟨_,_,_,_,_,_,rfl,kv _,kv _,mf,mf⟩) bZ)
 | true =>
   have HP:Hid (¬uq l who key=false):=by show ¬_;rw [hP];decide
   clear hP
   obtain ⟨⟨c0,c1,c2,c3,c4⟩,_⟩:=S.cells
   obtain ⟨d0,d1,d2,d3,d4,d5,d6,d7,d8⟩:=C.cells
   go_wp2_with fail
   clear c0 c1 c2 c3 c4 d0 d1 d2 d3 d4 d5 d6 d7 d8
   refine (ab8 g t h a n c y l who w1 (hr.later bw)).mono ?_
   rintro e w2 ⟨rfl,hbn⟩
   have bw:=bw.trans (hbn.mono bw.size)
   have hsn:=hbn.size
   have S:=S.later hbn (by omega)
   have C:=C.later hbn (by omega)
   have R:=R.later hbn (by omega)
   clear hbn
   cases hH:qy t h l who with
   | false =>
     have HS:Hid (uy g t h y l who key kind=⟨g,l,t,h,y,[],0⟩):=by show _=_;unfold uy;rw [if_neg HP.out,if_pos hH]
     clear hH
     obtain ⟨⟨c0,c1,c2,c3,c4⟩,_⟩:=S.cells
     obtain ⟨d0,d1,d2,d3,d4,d5,d6,d7,d8⟩:=C.cells
     obtain ⟨⟨e0,e1,e2,e3,e4⟩,⟨q0,q1,q2,q3,q4⟩⟩:=R.cells
     have HR:Hid (Row w a n l):=hr
     go_wp2
     obtain ⟨Z,hZ,z0,z1,z2,z3,z4⟩:=Z5.cells (X:=w2) (v0:=.int .i64 g) (v1:=.slice a n c) (v2:=.int .i64 t) (v3:=.int .i64 h) (v4:=.bool y) R
     have bZ:Below w.heap.size w Z:=by rw [hZ];exact Z5.below bw (by omega)
     unfold Z5 at hZ
     rw [←hZ]
     clear hZ
     exact bodyPost_ret (v:=.tuple #[.agg #[.int .i64 g,.slice a n c,.int .i64 t,.int .i64 h,.bool y],.slice .none 0 0,.nilIface]) (by simp [results,Tryz.results131,go_sem,z0,z1,z2,z3,z4]) rfl (And.intro (by rw [HS.out];exact ⟨a,n,c,_,_,_,rfl,HR.out.later bZ,kv _,aba,mf⟩) bZ)
   | true =>
     have HH:Hid (¬qy t h l who=false):=by show ¬_;rw [hH];decide
     clear hH
     by_cases hk:t=kind
     ·have hk':(t != kind)=false:=by simpa using hk
      by_cases h13:t=1∨t=3
      ·have HS:Hid (uy g t h y l who key kind=⟨g,l,0,0,y,[],0⟩):=by show _=_;unfold uy;rw [if_neg HP.out,if_neg HH.out,if_neg (fun e=>e hk),if_pos h13]
       have HQ:((t == 1)=true)∨((t == 1)=false∧(t == 3)=true):=by rcases h13 with e|e <;> simp [e]
       clear hk h13
       rcases HQ with k1|⟨k1,k3⟩
       all_goals
        obtain ⟨⟨c0,c1,c2,c3,c4⟩,_⟩:=S.cells
        obtain ⟨d0,d1,d2,d3,d4,d5,d6,d7,d8⟩:=C.cells
        go_wp2_with fail
        clear c0 c1 c2 c3 c4 d0 d1 d2 d3 d4 d5 d6 d7 d8
        refine (ach g t h a n c y w2).mono ?_
        rintro e w3 ⟨rfl,hb3⟩
        have bw3:=bw.trans (hb3.mono bw.size)
        have R3:=R.later hb3 (by omega)
        clear S C R
        obtain ⟨⟨e0,e1,e2,e3,e4⟩,⟨q0,q1,q2,q3,q4⟩⟩:=R3.cells
        have HR:Hid (Row w a n l):=hr
        go_wp2
        obtain ⟨Z,hZ,z0,z1,z2,z3,z4⟩:=Z5.cells (X:=w3) (v0:=.int .i64 g) (v1:=.slice a n c) (v2:=.int .i64 0) (v3:=.int .i64 0) (v4:=.bool y) R3
        have bZ:Below w.heap.size w Z:=by rw [hZ];exact Z5.below bw3 (by omega)
        unfold Z5 at hZ
        rw [←hZ]
        clear hZ
        exact bodyPost_ret (v:=.tuple #[.agg #[.int .i64 g,.slice a n c,.int .i64 0,.int .i64 0,.bool y],.slice .none 0 0,.nilIface]) (by simp [results,Tryz.results131,go_sem,z0,z1,z2,z3,z4]) rfl (And.intro (by rw [HS.out];exact ⟨a,n,c,_,_,_,rfl,HR.out.later bZ,kv _,aba,mf⟩) bZ)
      ·have HS:Hid (uy g t h y l who key kind=⟨g,l,0,0,y,ay (dw l who) 2,0⟩):=by show _=_;unfold uy;rw [if_neg HP.out,if_neg HH.out,if_neg (fun e=>e hk),if_neg h13]
       have k1:(t == 1)=false:=by rw [beq_eq_false_iff_ne];exact fun e=>h13 (.inl e)
       have k3:(t == 3)=false:=by rw [beq_eq_false_iff_ne];exact fun e=>h13 (.inr e)
       clear hk h13
       have hlo:(dw l who).length≤1000:=by have:=aa6 l who l.length;rw [List.take_length] at this;have:=hr.1;omega
       have hs2:w.heap.size+3≤w2.heap.size:=by omega
       obtain ⟨⟨c0,c1,c2,c3,c4⟩,_⟩:=S.cells
       obtain ⟨d0,d1,d2,d3,d4,d5,d6,d7,d8⟩:=C.cells
       obtain ⟨⟨e0,e1,e2,e3,e4⟩,⟨q0,q1,q2,q3,q4⟩⟩:=R.cells
       have HR:Hid (Row w a n l):=hr
       go_upto_region 9 with fail
       clear S C
       go_region_held3 (fun w'=>w'.cell? ⟨w.heap.size,0,.none⟩=some (.int .i64 g)∧w'.cell? ⟨w.heap.size,1,.none⟩=some (.slice a n c)∧w'.cell? ⟨w.heap.size,2,.none⟩=some (.int .i64 t)∧w'.cell? ⟨w.heap.size,3,.none⟩=some (.int .i64 h)∧w'.cell? ⟨w.heap.size,4,.none⟩=some (.bool y)∧w'.cell? ⟨w.heap.size+1,1,.none⟩=some (.int .i64 who)∧Below (w.heap.size+2) w2 w'∧w.heap.size+3≤w'.heap.size)
        ((first|with_reducible exact startS ⟨c0,c1,c2,c3,c4,d1,hs2⟩|with_reducible exact uu (by assumption) (by assumption)|with_reducible exact keepZ (by assumption)))
        (first
         |(go_at_call 166;with_reducible refine (ach g t h a n c y _).mono ?_;rintro e wf ⟨rfl,hbf⟩;(first|with_reducible have Rf:=StB.dl R hbf|with_reducible have Rf:=StB.nl Ro hbf|with_reducible have Rf:=StB.nl Rf hbf|with_reducible have Rf:=StB.nl Rt hbf);obtain ⟨⟨e0,e1,e2,e3,e4⟩,⟨q0,q1,q2,q3,q4⟩⟩:=Rf.cells)
         |(go_at_call 168;with_reducible refine (acn g t h a n c y l who _ (rowS HR.out bw (by assumption)) (by omega)).mono ?_;rintro e wo ⟨ao,no,co,rfl,hno,hbo⟩;have hnb:=nums_le hno hlo;(first|with_reducible have Ro:=StB.dl R hbo|with_reducible have Ro:=StB.nl Ro hbo|with_reducible have Ro:=StB.nl Rf hbo|with_reducible have Ro:=StB.nl Rt hbo);obtain ⟨⟨e0,e1,e2,e3,e4⟩,⟨q0,q1,q2,q3,q4⟩⟩:=Ro.cells)
         |(go_at_call 167;with_reducible refine (tells_any ao no co (dw l who) 2 _ (by first|with_reducible exact hno|with_reducible exact hno.later hbf) hnb).mono ?_;rintro e wt ⟨at2,nt,ct,rfl,hrt,hbt,hft⟩;(first|with_reducible have Rt:=StB.dl R hbt|with_reducible have Rt:=StB.nl Ro hbt|with_reducible have Rt:=StB.nl Rf hbt|with_reducible have Rt:=StB.nl Rt hbt);obtain ⟨⟨e0,e1,e2,e3,e4⟩,⟨q0,q1,q2,q3,q4⟩⟩:=Rt.cells))
       all_goals
        have hft3:Far (w.heap.size+3) at2:=hft.mono (by first|(have:=Ro.lt;omega)|(have:=Rf.lt;omega))
        have HT:Hid (Row wt at2 nt (ay (dw l who) 2)):=hrt
        have HF3:Hid (Far (w.heap.size+3) at2):=hft3
        clear hft hft3 hrt hno
        go_wp2
        first
         |(obtain ⟨Z,hZ,z0,z1,z2,z3,z4⟩:=Z5.cells (X:=wt) (v0:=.int .i64 g) (v1:=.slice a n c) (v2:=.int .i64 0) (v3:=.int .i64 0) (v4:=.bool y) Rt
           have hrt:Row Z at2 nt (ay (dw l who) 2):=by rw [hZ];exact HT.out.z5 HF3.out (by omega)
           unfold Z5 at hZ
           have bZ:Below w.heap.size w Z:=by rw [hZ];exact bw.trans (Below.mono (belowS (by with_reducible assumption)) (by omega))
           rw [←hZ]
           clear hZ
           exact bodyPost_ret (v:=.tuple #[.agg #[.int .i64 g,.slice a n c,.int .i64 0,.int .i64 0,.bool y],.slice at2 nt ct,.nilIface]) (by simp [results,Tryz.results131,go_sem,z0,z1,z2,z3,z4]) rfl (And.intro (by rw [HS.out];exact ⟨a,n,c,at2,nt,ct,rfl,HR.out.later bZ,hrt,aba,yl HF3.out (by omega)⟩) bZ))
         |(obtain ⟨Z,hZ,z0,z1,z2,z3,z4⟩:=Z5.cells (X:=wf) (v0:=.int .i64 g) (v1:=.slice a n c) (v2:=.int .i64 0) (v3:=.int .i64 0) (v4:=.bool y) Rf
           have hrt:Row Z at2 nt (ay (dw l who) 2):=by rw [hZ];exact (HT.out.later (by with_reducible assumption)).z5 HF3.out (by omega)
           unfold Z5 at hZ
           have bZ:Below w.heap.size w Z:=by rw [hZ];exact bw.trans (Below.mono (belowS (by with_reducible assumption)) (by omega))
           rw [←hZ]
           clear hZ
           exact bodyPost_ret (v:=.tuple #[.agg #[.int .i64 g,.slice a n c,.int .i64 0,.int .i64 0,.bool y],.slice at2 nt ct,.nilIface]) (by simp [results,Tryz.results131,go_sem,z0,z1,z2,z3,z4]) rfl (And.intro (by rw [HS.out];exact ⟨a,n,c,at2,nt,ct,rfl,HR.out.later bZ,hrt,aba,yl HF3.out (by omega)⟩) bZ))
     ·have HS:Hid (uy g t h y l who key kind=refused 5):=by show _=_;unfold uy;rw [if_neg HP.out,if_neg HH.out,if_pos hk]
      have hk':(t != kind)=true:=by simpa using hk
      clear hk
      obtain ⟨⟨c0,c1,c2,c3,c4⟩,_⟩:=S.cells
      obtain ⟨d0,d1,d2,d3,d4,d5,d6,d7,d8⟩:=C.cells
      go_wp2_with fail
      clear c0 c1 c2 c3 c4 d0 d1 d2 d3 d4 d5 d6 d7 d8
      refine (zh 5 w2).mono ?_
      rintro e wz ⟨rfl,hbz⟩
      have Rz:=R.later hbz (by omega)
      have bz:=bw.trans (hbz.mono bw.size)
      clear R bw
      obtain ⟨⟨e0,e1,e2,e3,e4⟩,⟨q0,q1,q2,q3,q4⟩⟩:=Rz.cells
      go_wp2
      obtain ⟨Z,hZ,z0,z1,z2,z3,z4⟩:=Z5.cells (X:=wz) (v0:=.int .i64 0) (v1:=.slice .none 0 0) (v2:=.int .i64 0) (v3:=.int .i64 0) (v4:=.bool false) Rz
      have bZ:Below w.heap.size w Z:=by rw [hZ];exact Z5.below bz (by omega)
      unfold Z5 at hZ
      rw [←hZ]
      clear hZ
      exact bodyPost_ret (v:=.tuple #[.agg #[.int .i64 0,.slice .none 0 0,.int .i64 0,.int .i64 0,.bool false],.slice .none 0 0,.iface 96 (.int .i64 5)]) (by simp [results,Tryz.results131,go_sem,z0,z1,z2,z3,z4]) rfl (And.intro (by rw [HS.out];exact ⟨_,_,_,_,_,_,rfl,kv _,kv _,mf,mf⟩) bZ)
def doF (g t h:Int) (y:Bool) (l:List (Int × Int)) (op who key new kind:Int) (st:Bool):Out :=
 if op=1∨op=2 then sw g t h l op who key new st
 else if op=3 then vk g t h y l who key kind
 else if op=4 then uy g t h y l who key kind
 else if op=5 then ze g y l who key
 else if op=6 then og g t h y l who key new kind
 else refused 2
theorem StB.set1 {X:World} {K:Nat} {g:Int} {a a':Option Addr} {n c n' c':Nat} {t h:Int} {y:Bool} (hb:StB X K g a n c t h y):StB (X.setCell ⟨K,1,.none⟩ (.slice a' n' c')) K g a' n' c' t h y:=by
 unfold StB at hb ⊢
 have:=heap_setCell_same _ K 1 _ _ (.slice a' n' c') hb
 simpa using this
theorem do_any (g t h:Int) (a:Option Addr) (n c:Nat) (y:Bool) (l:List (Int × Int)) (op who key new kind at':Int) (st:Bool) (da wa:ByteArray) (w:World) (hr:Row w a n l) (hn:n≤900) (hg:0≤g∧g≤1000000000) :
 Calls Tryz.prog 106 #[stV g a n c t h y,cmV op who key new kind at' st da wa] w fun e w'=>OutIs (doF g t h y l op who key new kind st) w.heap.size .none 0 e w'∧Below w.heap.size w w':=by
 obtain ⟨X,hX,bX,sX,S0,C0,R0⟩:=aa9 w g a n c t h y op who key new kind at' st da wa
 obtain ⟨⟨c0,c1,c2,c3,c4⟩,_⟩:=S0.cells
 go_enter Tryz.func106,Tryz.ntmps106
 go_wp2_with fail
 rw [←hX]
 clear hX c0 c1 c2 c3 c4
 refine (clone_any a n c l X (hr.later bX) (by omega)).mono ?_
 rintro e w1 ⟨v1,rfl,ho1,hb1⟩
 have hs1:=hb1.size
 obtain ⟨a1,n1,k1,rfl,hr1⟩:=ho1.row
 have hf1:=ho1.far
 have bw:=bX.trans (hb1.mono bX.size)
 have S1:=S0.later hb1 (by omega)
 have C1:=C0.later hb1 (by omega)
 have R1:=R0.later hb1 (by omega)
 have hn1:n1≤900:=by have:=hr1.1;have:=hr.1;omega
 obtain ⟨V,hV⟩:∃ V,V=w1.setCell ⟨w.heap.size,1,.none⟩ (.slice a1 n1 k1):=⟨_,rfl⟩
 obtain ⟨⟨c0,c1,c2,c3,c4⟩,⟨f0,f1,f2,f3,f4⟩⟩:=S1.cells
 go_upto_region 2 with fail
 rw [←hV]
 clear c0 c1 c2 c3 c4 f0 f1 f2 f3 f4 S0 C0 R0 ho1
 have S:StB V w.heap.size g a1 n1 k1 t h y:=by rw [hV];exact S1.set1
 have C:CmB V (w.heap.size+1) op who key new kind at' st da wa:=by unfold CmB;rw [hV,uj _ _ _ _ _ (by omega)];exact C1
 have R:StB V (w.heap.size+1+1) 0 .none 0 0 0 0 false:=by unfold StB;rw [hV,uj _ _ _ _ _ (by omega)];exact R1
 have hoff:∀ b,b<w.heap.size+3→Off b a1 n1:=fun b hb _ ad e=>by have:=hf1 ad e;omega
 have hrV:Row V a1 n1 l:=hr1.off (hoff w.heap.size (by omega)) (fun b hb _=>by rw [hV];exact uj _ _ _ _ b hb)
 have bw:Below w.heap.size w V:=by rw [hV];exact bw.setCell (by exact Nat.le_refl _) _
 have hsV:w.heap.size+3≤V.heap.size:=by rw [hV];simp [World.setCell];omega
 clear hV S1 C1 R1 hb1 bX hr1 hf1
 have HR:Hid (Row V a1 n1 l):=hrV
 have HOf:Hid (∀ b,b<w.heap.size+3→Off b a1 n1):=hoff
 clear hrV hoff
 by_cases h1:op=1
 ·have b1:(op == 1)=true:=by simpa using h1
  obtain ⟨oo,hoo⟩:∃ oo,oo=sw g t h l op who key new st:=⟨_,rfl⟩
  have HS:Hid (doF g t h y l op who key new kind st=oo):=by show _=_;rw [hoo];unfold doF;rw [if_pos (.inl h1)]
  have HC:=register_any g t h a1 n1 k1 y l op who key new kind at' st da wa V HR.out hn1 hg
  rw [←hoo] at HC
  have HCC:Hid (Calls Tryz.prog 129 #[stV g a1 n1 k1 t h y,cmV op who key new kind at' st da wa] V fun e w'=>OutIs oo V.heap.size a1 n1 e w'∧Below V.heap.size V w'):=HC
  clear hoo HC h1
  obtain ⟨⟨c0,c1,c2,c3,c4⟩,_⟩:=S.cells
  obtain ⟨d0,d1,d2,d3,d4,d5,d6,d7,d8⟩:=C.cells
  go_wp2_with fail
  clear c0 c1 c2 c3 c4 d0 d1 d2 d3 d4 d5 d6 d7 d8
  refine HCC.out.mono ?_
  rintro e w2 ⟨⟨a2,n2,k2,a3,n3,k3,rfl,hrx,hry,hnx,hny⟩,hb2⟩
  have R2:=R.later hb2 R.lt
  have HX:Hid (Row w2 a2 n2 oo.l):=hrx
  have HY:Hid (Row w2 a3 n3 oo.tl):=hry
  have HNX:Hid (uh V.heap.size a1 n1 a2 n2):=hnx
  have HNY:Hid (uh V.heap.size a1 n1 a3 n3):=hny
  clear hrx hry hnx hny S C R
  obtain ⟨⟨e0,e1,e2,e3,e4⟩,⟨q0,q1,q2,q3,q4⟩⟩:=R2.cells
  go_wp2
  obtain ⟨Z,hZ,z0,z1,z2,z3,z4⟩:=Z5.cells (X:=w2) (v0:=.int .i64 oo.g) (v1:=.slice a2 n2 k2) (v2:=.int .i64 oo.t) (v3:=.int .i64 oo.h) (v4:=.bool oo.y) R2
  have bZ:Below w.heap.size w Z:=by rw [hZ];exact Z5.below (bw.trans (hb2.mono bw.size)) (by omega)
  have hrX:Row Z a2 n2 oo.l:=by rw [hZ];exact HX.out.off (HNX.out _ (by omega) (HOf.out _ (by omega))) (fun b hb _=>vw w2 _ _ _ _ _ _ b hb)
  have hrY:Row Z a3 n3 oo.tl:=by rw [hZ];exact HY.out.off (HNY.out _ (by omega) (HOf.out _ (by omega))) (fun b hb _=>vw w2 _ _ _ _ _ _ b hb)
  unfold Z5 at hZ
  rw [←hZ]
  clear hZ
  exact bodyPost_ret (v:=.tuple #[.agg #[.int .i64 oo.g,.slice a2 n2 k2,.int .i64 oo.t,.int .i64 oo.h,.bool oo.y],.slice a3 n3 k3,ai oo.f]) (by simp [results,Tryz.results106,go_sem,z0,z1,z2,z3,z4]) rfl (And.intro (by rw [HS.out];exact ⟨a2,n2,k2,a3,n3,k3,rfl,hrX,hrY,fun b hb _=>HNX.out b (by omega) (HOf.out b (by omega)),fun b hb _=>HNY.out b (by omega) (HOf.out b (by omega))⟩) bZ)
 have b1:(op == 1)=false:=by simpa using h1
 by_cases h2:op=2
 ·have b2:(op == 2)=true:=by simpa using h2
  obtain ⟨oo,hoo⟩:∃ oo,oo=sw g t h l op who key new st:=⟨_,rfl⟩
  have HS:Hid (doF g t h y l op who key new kind st=oo):=by show _=_;rw [hoo];unfold doF;rw [if_pos (.inr h2)]
  have HC:=register_any g t h a1 n1 k1 y l op who key new kind at' st da wa V HR.out hn1 hg
  rw [←hoo] at HC
  have HCC:Hid (Calls Tryz.prog 129 #[stV g a1 n1 k1 t h y,cmV op who key new kind at' st da wa] V fun e w'=>OutIs oo V.heap.size a1 n1 e w'∧Below V.heap.size V w'):=HC
  clear hoo HC h2 h1
  obtain ⟨⟨c0,c1,c2,c3,c4⟩,_⟩:=S.cells
  obtain ⟨d0,d1,d2,d3,d4,d5,d6,d7,d8⟩:=C.cells
  go_wp2_with fail
  clear c0 c1 c2 c3 c4 d0 d1 d2 d3 d4 d5 d6 d7 d8
  refine HCC.out.mono ?_
  rintro e w2 ⟨⟨a2,n2,k2,a3,n3,k3,rfl,hrx,hry,hnx,hny⟩,hb2⟩
  have R2:=R.later hb2 R.lt
  have HX:Hid (Row w2 a2 n2 oo.l):=hrx
  have HY:Hid (Row w2 a3 n3 oo.tl):=hry
  have HNX:Hid (uh V.heap.size a1 n1 a2 n2):=hnx
  have HNY:Hid (uh V.heap.size a1 n1 a3 n3):=hny
  clear hrx hry hnx hny S C R
  obtain ⟨⟨e0,e1,e2,e3,e4⟩,⟨q0,q1,q2,q3,q4⟩⟩:=R2.cells
  go_wp2
  obtain ⟨Z,hZ,z0,z1,z2,z3,z4⟩:=Z5.cells (X:=w2) (v0:=.int .i64 oo.g) (v1:=.slice a2 n2 k2) (v2:=.int .i64 oo.t) (v3:=.int .i64 oo.h) (v4:=.bool oo.y) R2
  have bZ:Below w.heap.size w Z:=by rw [hZ];exact Z5.below (bw.trans (hb2.mono bw.size)) (by omega)
  have hrX:Row Z a2 n2 oo.l:=by rw [hZ];exact HX.out.off (HNX.out _ (by omega) (HOf.out _ (by omega))) (fun b hb _=>vw w2 _ _ _ _ _ _ b hb)
  have hrY:Row Z a3 n3 oo.tl:=by rw [hZ];exact HY.out.off (HNY.out _ (by omega) (HOf.out _ (by omega))) (fun b hb _=>vw w2 _ _ _ _ _ _ b hb)
  unfold Z5 at hZ
  rw [←hZ]
  clear hZ
  exact bodyPost_ret (v:=.tuple #[.agg #[.int .i64 oo.g,.slice a2 n2 k2,.int .i64 oo.t,.int .i64 oo.h,.bool oo.y],.slice a3 n3 k3,ai oo.f]) (by simp [results,Tryz.results106,go_sem,z0,z1,z2,z3,z4]) rfl (And.intro (by rw [HS.out];exact ⟨a2,n2,k2,a3,n3,k3,rfl,hrX,hrY,fun b hb _=>HNX.out b (by omega) (HOf.out b (by omega)),fun b hb _=>HNY.out b (by omega) (HOf.out b (by omega))⟩) bZ)
 have b2:(op == 2)=false:=by simpa using h2
 by_cases h3:op=3
 ·have b3:(op == 3)=true:=by simpa using h3
  obtain ⟨oo,hoo⟩:∃ oo,oo=vk g t h y l who key kind:=⟨_,rfl⟩
  have HS:Hid (doF g t h y l op who key new kind st=oo):=by show _=_;rw [hoo];unfold doF;rw [if_neg (fun e=>e.elim h1 h2),if_pos h3]
  have HC:=reserve_any g t h a1 n1 k1 y l op who key new kind at' st da wa V HR.out
  rw [←hoo] at HC
  have HCC:Hid (Calls Tryz.prog 130 #[stV g a1 n1 k1 t h y,cmV op who key new kind at' st da wa] V fun e w'=>OutIs oo V.heap.size a1 n1 e w'∧Below V.heap.size V w'):=HC
  clear hoo HC h3 h2 h1
  obtain ⟨⟨c0,c1,c2,c3,c4⟩,_⟩:=S.cells
  obtain ⟨d0,d1,d2,d3,d4,d5,d6,d7,d8⟩:=C.cells
  go_wp2_with fail
  clear c0 c1 c2 c3 c4 d0 d1 d2 d3 d4 d5 d6 d7 d8
  refine HCC.out.mono ?_
  rintro e w2 ⟨⟨a2,n2,k2,a3,n3,k3,rfl,hrx,hry,hnx,hny⟩,hb2⟩
  have R2:=R.later hb2 R.lt
  have HX:Hid (Row w2 a2 n2 oo.l):=hrx
  have HY:Hid (Row w2 a3 n3 oo.tl):=hry
  have HNX:Hid (uh V.heap.size a1 n1 a2 n2):=hnx
  have HNY:Hid (uh V.heap.size a1 n1 a3 n3):=hny
  clear hrx hry hnx hny S C R
  obtain ⟨⟨e0,e1,e2,e3,e4⟩,⟨q0,q1,q2,q3,q4⟩⟩:=R2.cells
  go_wp2
  obtain ⟨Z,hZ,z0,z1,z2,z3,z4⟩:=Z5.cells (X:=w2) (v0:=.int .i64 oo.g) (v1:=.slice a2 n2 k2) (v2:=.int .i64 oo.t) (v3:=.int .i64 oo.h) (v4:=.bool oo.y) R2
  have bZ:Below w.heap.size w Z:=by rw [hZ];exact Z5.below (bw.trans (hb2.mono bw.size)) (by omega)
  have hrX:Row Z a2 n2 oo.l:=by rw [hZ];exact HX.out.off (HNX.out _ (by omega) (HOf.out _ (by omega))) (fun b hb _=>vw w2 _ _ _ _ _ _ b hb)
  have hrY:Row Z a3 n3 oo.tl:=by rw [hZ];exact HY.out.off (HNY.out _ (by omega) (HOf.out _ (by omega))) (fun b hb _=>vw w2 _ _ _ _ _ _ b hb)
  unfold Z5 at hZ
  rw [←hZ]
  clear hZ
  exact bodyPost_ret (v:=.tuple #[.agg #[.int .i64 oo.g,.slice a2 n2 k2,.int .i64 oo.t,.int .i64 oo.h,.bool oo.y],.slice a3 n3 k3,ai oo.f]) (by simp [results,Tryz.results106,go_sem,z0,z1,z2,z3,z4]) rfl (And.intro (by rw [HS.out];exact ⟨a2,n2,k2,a3,n3,k3,rfl,hrX,hrY,fun b hb _=>HNX.out b (by omega) (HOf.out b (by omega)),fun b hb _=>HNY.out b (by omega) (HOf.out b (by omega))⟩) bZ)
 have b3:(op == 3)=false:=by simpa using h3
 by_cases h4:op=4
 ·have b4:(op == 4)=true:=by simpa using h4
  obtain ⟨oo,hoo⟩:∃ oo,oo=uy g t h y l who key kind:=⟨_,rfl⟩
  have HS:Hid (doF g t h y l op who key new kind st=oo):=by show _=_;rw [hoo];unfold doF;rw [if_neg (fun e=>e.elim h1 h2),if_neg h3,if_pos h4]
  have HC:=release_any g t h a1 n1 k1 y l op who key new kind at' st da wa V HR.out (by omega)
  rw [←hoo] at HC
  have HCC:Hid (Calls Tryz.prog 131 #[stV g a1 n1 k1 t h y,cmV op who key new kind at' st da wa] V fun e w'=>OutIs oo V.heap.size a1 n1 e w'∧Below V.heap.size V w'):=HC
  clear hoo HC h4 h3 h2 h1
  obtain ⟨⟨c0,c1,c2,c3,c4⟩,_⟩:=S.cells
  obtain ⟨d0,d1,d2,d3,d4,d5,d6,d7,d8⟩:=C.cells
  go_wp2_with fail
  clear c0 c1 c2 c3 c4 d0 d1 d2 d3 d4 d5 d6 d7 d8
  refine HCC.out.mono ?_
  rintro e w2 ⟨⟨a2,n2,k2,a3,n3,k3,rfl,hrx,hry,hnx,hny⟩,hb2⟩
  have R2:=R.later hb2 R.lt
  have HX:Hid (Row w2 a2 n2 oo.l):=hrx
  have HY:Hid (Row w2 a3 n3 oo.tl):=hry
  have HNX:Hid (uh V.heap.size a1 n1 a2 n2):=hnx
  have HNY:Hid (uh V.heap.size a1 n1 a3 n3):=hny
  clear hrx hry hnx hny S C R
  obtain ⟨⟨e0,e1,e2,e3,e4⟩,⟨q0,q1,q2,q3,q4⟩⟩:=R2.cells
  go_wp2
  obtain ⟨Z,hZ,z0,z1,z2,z3,z4⟩:=Z5.cells (X:=w2) (v0:=.int .i64 oo.g) (v1:=.slice a2 n2 k2) (v2:=.int .i64 oo.t) (v3:=.int .i64 oo.h) (v4:=.bool oo.y) R2
  have bZ:Below w.heap.size w Z:=by rw [hZ];exact Z5.below (bw.trans (hb2.mono bw.size)) (by omega)
  have hrX:Row Z a2 n2 oo.l:=by rw [hZ];exact HX.out.off (HNX.out _ (by omega) (HOf.out _ (by omega))) (fun b hb _=>vw w2 _ _ _ _ _ _ b hb)
  have hrY:Row Z a3 n3 oo.tl:=by rw [hZ];exact HY.out.off (HNY.out _ (by omega) (HOf.out _ (by omega))) (fun b hb _=>vw w2 _ _ _ _ _ _ b hb)
  unfold Z5 at hZ
  rw [←hZ]
  clear hZ
  exact bodyPost_ret (v:=.tuple #[.agg #[.int .i64 oo.g,.slice a2 n2 k2,.int .i64 oo.t,.int .i64 oo.h,.bool oo.y],.slice a3 n3 k3,ai oo.f]) (by simp [results,Tryz.results106,go_sem,z0,z1,z2,z3,z4]) rfl (And.intro (by rw [HS.out];exact ⟨a2,n2,k2,a3,n3,k3,rfl,hrX,hrY,fun b hb _=>HNX.out b (by omega) (HOf.out b (by omega)),fun b hb _=>HNY.out b (by omega) (HOf.out b (by omega))⟩) bZ)
 have b4:(op == 4)=false:=by simpa using h4
 by_cases h5:op=5
 ·have b5:(op == 5)=true:=by simpa using h5
  obtain ⟨oo,hoo⟩:∃ oo,oo=ze g y l who key:=⟨_,rfl⟩
  have HS:Hid (doF g t h y l op who key new kind st=oo):=by show _=_;rw [hoo];unfold doF;rw [if_neg (fun e=>e.elim h1 h2),if_neg h3,if_neg h4,if_pos h5]
  have HC:=clearAll_any g t h a1 n1 k1 y l op who key new kind at' st da wa V HR.out (by omega) hg
  rw [←hoo] at HC
  have HCC:Hid (Calls Tryz.prog 132 #[stV g a1 n1 k1 t h y,cmV op who key new kind at' st da wa] V fun e w'=>OutIs oo V.heap.size a1 n1 e w'∧Below V.heap.size V w'):=HC
  clear hoo HC h5 h4 h3 h2 h1
  obtain ⟨⟨c0,c1,c2,c3,c4⟩,_⟩:=S.cells
  obtain ⟨d0,d1,d2,d3,d4,d5,d6,d7,d8⟩:=C.cells
  go_wp2_with fail
  clear c0 c1 c2 c3 c4 d0 d1 d2 d3 d4 d5 d6 d7 d8
  refine HCC.out.mono ?_
  rintro e w2 ⟨⟨a2,n2,k2,a3,n3,k3,rfl,hrx,hry,hnx,hny⟩,hb2⟩
  have R2:=R.later hb2 R.lt
  have HX:Hid (Row w2 a2 n2 oo.l):=hrx
  have HY:Hid (Row w2 a3 n3 oo.tl):=hry
  have HNX:Hid (uh V.heap.size a1 n1 a2 n2):=hnx
  have HNY:Hid (uh V.heap.size a1 n1 a3 n3):=hny
  clear hrx hry hnx hny S C R
  obtain ⟨⟨e0,e1,e2,e3,e4⟩,⟨q0,q1,q2,q3,q4⟩⟩:=R2.cells
  go_wp2
  obtain ⟨Z,hZ,z0,z1,z2,z3,z4⟩:=Z5.cells (X:=w2) (v0:=.int .i64 oo.g) (v1:=.slice a2 n2 k2) (v2:=.int .i64 oo.t) (v3:=.int .i64 oo.h) (v4:=.bool oo.y) R2
  have bZ:Below w.heap.size w Z:=by rw [hZ];exact Z5.below (bw.trans (hb2.mono bw.size)) (by omega)
  have hrX:Row Z a2 n2 oo.l:=by rw [hZ];exact HX.out.off (HNX.out _ (by omega) (HOf.out _ (by omega))) (fun b hb _=>vw w2 _ _ _ _ _ _ b hb)
  have hrY:Row Z a3 n3 oo.tl:=by rw [hZ];exact HY.out.off (HNY.out _ (by omega) (HOf.out _ (by omega))) (fun b hb _=>vw w2 _ _ _ _ _ _ b hb)
  unfold Z5 at hZ
  rw [←hZ]
  clear hZ
  exact bodyPost_ret (v:=.tuple #[.agg #[.int .i64 oo.g,.slice a2 n2 k2,.int .i64 oo.t,.int .i64 oo.h,.bool oo.y],.slice a3 n3 k3,ai oo.f]) (by simp [results,Tryz.results106,go_sem,z0,z1,z2,z3,z4]) rfl (And.intro (by rw [HS.out];exact ⟨a2,n2,k2,a3,n3,k3,rfl,hrX,hrY,fun b hb _=>HNX.out b (by omega) (HOf.out b (by omega)),fun b hb _=>HNY.out b (by omega) (HOf.out b (by omega))⟩) bZ)
 have b5:(op == 5)=false:=by simpa using h5
 by_cases h6:op=6
 ·have b6:(op == 6)=true:=by simpa using h6
  obtain ⟨oo,hoo⟩:∃ oo,oo=og g t h y l who key new kind:=⟨_,rfl⟩
  have HS:Hid (doF g t h y l op who key new kind st=oo):=by show _=_;rw [hoo];unfold doF;rw [if_neg (fun e=>e.elim h1 h2),if_neg h3,if_neg h4,if_neg h5,if_pos h6]
  have HC:=preempt_any g t h a1 n1 k1 y l op who key new kind at' st da wa V HR.out hn1 hg
  rw [←hoo] at HC
  have HCC:Hid (Calls Tryz.prog 133 #[stV g a1 n1 k1 t h y,cmV op who key new kind at' st da wa] V fun e w'=>OutIs oo V.heap.size a1 n1 e w'∧Below V.heap.size V w'):=HC
  clear hoo HC h6 h5 h4 h3 h2 h1
  obtain ⟨⟨c0,c1,c2,c3,c4⟩,_⟩:=S.cells
  obtain ⟨d0,d1,d2,d3,d4,d5,d6,d7,d8⟩:=C.cells
  go_wp2_with fail
  clear c0 c1 c2 c3 c4 d0 d1 d2 d3 d4 d5 d6 d7 d8
  refine HCC.out.mono ?_
  rintro e w2 ⟨⟨a2,n2,k2,a3,n3,k3,rfl,hrx,hry,hnx,hny⟩,hb2⟩
  have R2:=R.later hb2 R.lt
  have HX:Hid (Row w2 a2 n2 oo.l):=hrx
  have HY:Hid (Row w2 a3 n3 oo.tl):=hry
  have HNX:Hid (uh V.heap.size a1 n1 a2 n2):=hnx
  have HNY:Hid (uh V.heap.size a1 n1 a3 n3):=hny
  clear hrx hry hnx hny S C R
  obtain ⟨⟨e0,e1,e2,e3,e4⟩,⟨q0,q1,q2,q3,q4⟩⟩:=R2.cells
  go_wp2
  obtain ⟨Z,hZ,z0,z1,z2,z3,z4⟩:=Z5.cells (X:=w2) (v0:=.int .i64 oo.g) (v1:=.slice a2 n2 k2) (v2:=.int .i64 oo.t) (v3:=.int .i64 oo.h) (v4:=.bool oo.y) R2
  have bZ:Below w.heap.size w Z:=by rw [hZ];exact Z5.below (bw.trans (hb2.mono bw.size)) (by omega)
  have hrX:Row Z a2 n2 oo.l:=by rw [hZ];exact HX.out.off (HNX.out _ (by omega) (HOf.out _ (by omega))) (fun b hb _=>vw w2 _ _ _ _ _ _ b hb)
  have hrY:Row Z a3 n3 oo.tl:=by rw [hZ];exact HY.out.off (HNY.out _ (by omega) (HOf.out _ (by omega))) (fun b hb _=>vw w2 _ _ _ _ _ _ b hb)
  unfold Z5 at hZ
  rw [←hZ]
  clear hZ
  exact bodyPost_ret (v:=.tuple #[.agg #[.int .i64 oo.g,.slice a2 n2 k2,.int .i64 oo.t,.int .i64 oo.h,.bool oo.y],.slice a3 n3 k3,ai oo.f]) (by simp [results,Tryz.results106,go_sem,z0,z1,z2,z3,z4]) rfl (And.intro (by rw [HS.out];exact ⟨a2,n2,k2,a3,n3,k3,rfl,hrX,hrY,fun b hb _=>HNX.out b (by omega) (HOf.out b (by omega)),fun b hb _=>HNY.out b (by omega) (HOf.out b (by omega))⟩) bZ)
 have b6:(op == 6)=false:=by simpa using h6
 have HS:Hid (doF g t h y l op who key new kind st=refused 2):=by show _=_;unfold doF;rw [if_neg (fun e=>e.elim h1 h2),if_neg h3,if_neg h4,if_neg h5,if_neg h6]
 clear h1 h2 h3 h4 h5 h6
 obtain ⟨⟨c0,c1,c2,c3,c4⟩,_⟩:=S.cells
 obtain ⟨d0,d1,d2,d3,d4,d5,d6,d7,d8⟩:=C.cells
 go_wp2_with fail
 clear c0 c1 c2 c3 c4 d0 d1 d2 d3 d4 d5 d6 d7 d8
 refine (zh 2 V).mono ?_
 rintro e w2 ⟨rfl,hb2⟩
 have R2:=R.later hb2 R.lt
 clear S C R
 obtain ⟨⟨e0,e1,e2,e3,e4⟩,⟨q0,q1,q2,q3,q4⟩⟩:=R2.cells
 go_wp2
 obtain ⟨Z,hZ,z0,z1,z2,z3,z4⟩:=Z5.cells (X:=w2) (v0:=.int .i64 0) (v1:=.slice .none 0 0) (v2:=.int .i64 0) (v3:=.int .i64 0) (v4:=.bool false) R2
 have bZ:Below w.heap.size w Z:=by rw [hZ];exact Z5.below (bw.trans (hb2.mono bw.size)) (by omega)
 unfold Z5 at hZ
 rw [←hZ]
 clear hZ
 exact bodyPost_ret (v:=.tuple #[.agg #[.int .i64 0,.slice .none 0 0,.int .i64 0,.int .i64 0,.bool false],.slice .none 0 0,.iface 96 (.int .i64 2)]) (by simp [results,Tryz.results106,go_sem,z0,z1,z2,z3,z4]) rfl (And.intro (by rw [HS.out];exact ⟨_,_,_,_,_,_,rfl,kv _,kv _,mf,mf⟩) bZ)
def wm (t h:Int) (l:List (Int × Int)) (t' h':Int) (l':List (Int × Int)) (who:Int):Bool :=
 (jy t h l who false && !jy t' h' l' who false) || (jy t h l who true && !jy t' h' l' who true)
def xk (t h:Int) (l:List (Int × Int)) (t' h':Int) (l':List (Int × Int)):Prop:=∃ k:Nat,k<4∧wm t h l t' h' l' (k+1)=true
instance (t h:Int) (l:List (Int × Int)) (t' h':Int) (l':List (Int × Int)):Decidable (xk t h l t' h' l'):=by unfold xk;infer_instance
theorem laidStates (w:World) (g:Int) (a:Option Addr) (n c:Nat) (t h:Int) (y:Bool) (g':Int) (a':Option Addr) (n' c':Nat) (t' h':Int) (y':Bool) :
 ∃ X,X=(w.alloc (.cells #[.int .i64 g,.slice a n c,.int .i64 t,.int .i64 h,.bool y] 36)).alloc (.cells #[.int .i64 g',.slice a' n' c',.int .i64 t',.int .i64 h',.bool y'] 36) ∧
   Below w.heap.size w X∧X.heap.size=w.heap.size+2∧StB X w.heap.size g a n c t h y∧StB X (w.heap.size+1) g' a' n' c' t' h' y':=by
 refine ⟨_,rfl,((Below.refl _ _).alloc (Nat.le_refl _) _).alloc (by simp) _,by simp,?_,?_⟩
 ·unfold StB;rw [Below.heap_alloc _ _ _ (by simp)];exact heap_alloc_new w _
 ·unfold StB;simpa using heap_alloc_new (w.alloc (.cells #[.int .i64 g,.slice a n c,.int .i64 t,.int .i64 h,.bool y] 36)) (.cells #[.int .i64 g',.slice a' n' c',.int .i64 t',.int .i64 h',.bool y'] 36)
theorem less_any (g t h:Int) (a:Option Addr) (n c:Nat) (y:Bool) (l:List (Int × Int)) (g' t' h':Int) (a':Option Addr) (n' c':Nat) (y':Bool) (l':List (Int × Int)) (w:World) (hr:Row w a n l) (hr':Row w a' n' l') :
 Calls Tryz.prog 107 #[stV g a n c t h y,stV g' a' n' c' t' h' y',.func (.func 21) #[] #[]] w fun e w'=>e=.returned (.bool (decide (xk t h l t' h' l')))∧Below w.heap.size w w':=by
 obtain ⟨X,hX,bX,sX,S0,T0⟩:=laidStates w g a n c t h y g' a' n' c' t' h' y'
 have qf:∀ W:World,(binOp .eql 41 (.func (.func 21) #[] #[]) .nilFunc).run Tryz.prog W=.ok (.bool false) W:=fun W=>by kernel_rfl
 go_enter Tryz.func107,Tryz.ntmps107
 go_wp2_with fail
 rw [←hX]
 clear hX
 go_loopw [11] (fun i wr=>∃ k:Nat,k≤4∧i=.int .i64 k∧Below X.heap.size X wr∧Hid (∀ j:Nat,j<k→wm t h l t' h' l' ((j:Int)+1)=false)) (fun i _=>4 - (intOf i).toNat)
 case atStart=>exact ⟨0,by omega,rfl,Below.refl _ _,fun j hj=>absurd hj (Nat.not_lt_zero _)⟩
 case round =>
  obtain ⟨k,hk,rfl,hb,hall⟩:=hrel
  have bw:=bX.trans (hb.mono bX.size)
  have S:=S0.later hb (by omega)
  have T:=T0.later hb (by omega)
  have hsb:=hb.size
  have bx:Hid (Below X.heap.size X wr):=hb
  clear hb
  by_cases hlt:k<4
  ·have hki:(k:Int)<4:=by omega
   clear S0 T0
   obtain ⟨⟨c0,c1,c2,c3,c4⟩,_⟩:=S.cells
   obtain ⟨⟨d0,d1,d2,d3,d4⟩,_⟩:=T.cells
   go_wp2_with fail
   clear c0 c1 c2 c3 c4 d0 d1 d2 d3 d4
   refine (zz g t h a n c y l ((k:Int)+1) false _ (hr.later bw)).mono ?_
   rintro e w1 ⟨rfl,hbn⟩
   have bw:=bw.trans (hbn.mono bw.size)
   have bx:Hid (Below X.heap.size X w1):=bx.out.trans (hbn.mono bx.out.size)
   have hsn:=hbn.size
   have S:=S.later hbn S.lt
   have T:=T.later hbn T.lt
   clear hbn
   cases b1:jy t h l ((k:Int)+1) false with
   | false =>
     obtain ⟨⟨c0,c1,c2,c3,c4⟩,_⟩:=S.cells
     obtain ⟨⟨d0,d1,d2,d3,d4⟩,_⟩:=T.cells
     go_wp2_with fail
     clear c0 c1 c2 c3 c4 d0 d1 d2 d3 d4
     refine (zz g t h a n c y l ((k:Int)+1) true _ (hr.later bw)).mono ?_
     rintro e w3 ⟨rfl,hbn⟩
     have bw:=bw.trans (hbn.mono bw.size)
     have bx:Hid (Below X.heap.size X w3):=bx.out.trans (hbn.mono bx.out.size)
     have hsn:=hbn.size
     have S:=S.later hbn S.lt
     have T:=T.later hbn T.lt
     clear hbn
     cases b3:jy t h l ((k:Int)+1) true with
     | false =>
       have HN:Hid (wm t h l t' h' l' ((k:Int)+1)=false):=by show _=_;unfold wm;rw [b1,b3];simp
       clear S T
       go_wp2
       go_roundw
       case rel=>exact ⟨k+1,by omega,by go_num,bx.out,fun j hj=>by
        rcases Nat.lt_or_ge j k with h0|h0
        ·exact hall.out j h0
        ·have:j=k:=by omega
         subst this
         exact HN.out⟩
       case measure=>simp [intOf];omega
     | true =>
       obtain ⟨⟨c0,c1,c2,c3,c4⟩,_⟩:=S.cells
       obtain ⟨⟨d0,d1,d2,d3,d4⟩,_⟩:=T.cells
       go_wp2_with fail
       clear c0 c1 c2 c3 c4 d0 d1 d2 d3 d4
       refine (zz g' t' h' a' n' c' y' l' ((k:Int)+1) true _ (hr'.later bw)).mono ?_
       rintro e w4 ⟨rfl,hbn⟩
       have bw:=bw.trans (hbn.mono bw.size)
       have bx:Hid (Below X.heap.size X w4):=bx.out.trans (hbn.mono bx.out.size)
       have hsn:=hbn.size
       have S:=S.later hbn S.lt
       have T:=T.later hbn T.lt
       clear hbn
       cases b4:jy t' h' l' ((k:Int)+1) true with
       | true =>
         have HN:Hid (wm t h l t' h' l' ((k:Int)+1)=false):=by show _=_;unfold wm;rw [b1,b3,b4];simp
         clear S T
         go_wp2
         go_roundw
         case rel=>exact ⟨k+1,by omega,by go_num,bx.out,fun j hj=>by
          rcases Nat.lt_or_ge j k with h0|h0
          ·exact hall.out j h0
          ·have:j=k:=by omega
           subst this
           exact HN.out⟩
         case measure=>simp [intOf];omega
       | false =>
         have HL:Hid (xk t h l t' h' l'):=⟨k,by omega,by unfold wm;rw [b1,b3,b4];simp⟩
         clear S T
         go_wp2
         go_ret
         exact ⟨fq (by simpa using HL.out),bw⟩
   | true =>
     obtain ⟨⟨c0,c1,c2,c3,c4⟩,_⟩:=S.cells
     obtain ⟨⟨d0,d1,d2,d3,d4⟩,_⟩:=T.cells
     go_wp2_with fail
     clear c0 c1 c2 c3 c4 d0 d1 d2 d3 d4
     refine (zz g' t' h' a' n' c' y' l' ((k:Int)+1) false _ (hr'.later bw)).mono ?_
     rintro e w2 ⟨rfl,hbn⟩
     have bw:=bw.trans (hbn.mono bw.size)
     have bx:Hid (Below X.heap.size X w2):=bx.out.trans (hbn.mono bx.out.size)
     have hsn:=hbn.size
     have S:=S.later hbn S.lt
     have T:=T.later hbn T.lt
     clear hbn
     cases b2:jy t' h' l' ((k:Int)+1) false with
     | false =>
       have HL:Hid (xk t h l t' h' l'):=⟨k,by omega,by unfold wm;rw [b1,b2];simp⟩
       clear S T
       go_wp2
       go_ret
       exact ⟨fq (by simpa using HL.out),bw⟩
     | true =>
       obtain ⟨⟨c0,c1,c2,c3,c4⟩,_⟩:=S.cells
       obtain ⟨⟨d0,d1,d2,d3,d4⟩,_⟩:=T.cells
       go_wp2_with fail
       clear c0 c1 c2 c3 c4 d0 d1 d2 d3 d4
       refine (zz g t h a n c y l ((k:Int)+1) true _ (hr.later bw)).mono ?_
       rintro e w3 ⟨rfl,hbn⟩
       have bw:=bw.trans (hbn.mono bw.size)
       have bx:Hid (Below X.heap.size X w3):=bx.out.trans (hbn.mono bx.out.size)
       have hsn:=hbn.size
       have S:=S.later hbn S.lt
       have T:=T.later hbn T.lt
       clear hbn
       cases b3:jy t h l ((k:Int)+1) true with
       | false =>
         have HN:Hid (wm t h l t' h' l' ((k:Int)+1)=false):=by show _=_;unfold wm;rw [b1,b2,b3];simp
         clear S T
         go_wp2
         go_roundw
         case rel=>exact ⟨k+1,by omega,by go_num,bx.out,fun j hj=>by
          rcases Nat.lt_or_ge j k with h0|h0
          ·exact hall.out j h0
          ·have:j=k:=by omega
           subst this
           exact HN.out⟩
         case measure=>simp [intOf];omega
       | true =>
         obtain ⟨⟨c0,c1,c2,c3,c4⟩,_⟩:=S.cells
         obtain ⟨⟨d0,d1,d2,d3,d4⟩,_⟩:=T.cells
         go_wp2_with fail
         clear c0 c1 c2 c3 c4 d0 d1 d2 d3 d4
         refine (zz g' t' h' a' n' c' y' l' ((k:Int)+1) true _ (hr'.later bw)).mono ?_
         rintro e w4 ⟨rfl,hbn⟩
         have bw:=bw.trans (hbn.mono bw.size)
         have bx:Hid (Below X.heap.size X w4):=bx.out.trans (hbn.mono bx.out.size)
         have hsn:=hbn.size
         have S:=S.later hbn S.lt
         have T:=T.later hbn T.lt
         clear hbn
         cases b4:jy t' h' l' ((k:Int)+1) true with
         | true =>
           have HN:Hid (wm t h l t' h' l' ((k:Int)+1)=false):=by show _=_;unfold wm;rw [b1,b2,b3,b4];simp
           clear S T
           go_wp2
           go_roundw
           case rel=>exact ⟨k+1,by omega,by go_num,bx.out,fun j hj=>by
            rcases Nat.lt_or_ge j k with h0|h0
            ·exact hall.out j h0
            ·have:j=k:=by omega
             subst this
             exact HN.out⟩
           case measure=>simp [intOf];omega
         | false =>
           have HL:Hid (xk t h l t' h' l'):=⟨k,by omega,by unfold wm;rw [b1,b2,b3,b4];simp⟩
           clear S T
           go_wp2
           go_ret
           exact ⟨fq (by simpa using HL.out),bw⟩
  ·have hk4:k=4:=by omega
   subst hk4
   have HL:Hid (¬xk t h l t' h' l'):=by
    rintro ⟨j,hj,e⟩
    rw [hall.out j hj] at e
    cases e
   clear S T S0 T0
   go_wp2
   go_ret
   exact ⟨fq (by simpa using HL.out),bw⟩
end Go.Proofs.YtpkhdihoijkamaaGreatDoor
