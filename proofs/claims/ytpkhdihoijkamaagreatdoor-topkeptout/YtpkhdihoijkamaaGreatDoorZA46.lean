/- Several texts of this seat in one: UPowM, Iter, UWait. No statement of the seat is proved here. -/
import Derived.Test.YtpkhdihoijkamaaGreatDoorZA43
import Derived.Test.YtpkhdihoijkamaaGreatDoorProg
import Derived.Test.YtpkhdihoijkamaaGreatDoorZA28
import Derived.Shelf.SlIterI.Nil
import Derived.Shelf.SortM.Plain
import Derived.Shelf.SortM.SortNone
import Derived.Ground.GgzProg
import Derived.Ground.SlgmProg
namespace Go.Proofs.YtpkhdihoijkamaaGreatDoor.U
open Go.ChangeShapes Go.WideShapes Go.ChangeAt Go.RowKit Go.Deep Go.Maps
open Go.Proofs.YtpkhdihoijkamaaGreatDoor.D
theorem eql_cel (c:G.Cel) (W:World):(binOp .eql 44 (.agg #[.int .i64 c.e,.int .i64 c.n,.string c.d]) (.agg #[.int .i64 c.e,.int .i64 c.n,.string c.d])).run Tryz.prog W=.ok (.bool true) W:=by
 rw [run_eql_struct,show (10000:Nat)=9998+2 from rfl,G.acr 9998 c c W,G.ac6];rfl
theorem ready_most {M:TM} (h:GI M.gs):mi M=jr M:=by
 unfold mi jr;rw [ac4 h]
theorem memL_takes {a b:List G.Rep} {up:List Bool} {e e':Int}:∀ n:Nat,(∀ i:Nat,i<n→G.takes a up e i=G.takes b up e' i)→G.cz a up e n=G.cz b up e' n
 | 0,_=>by simp [G.cz]
 | n+1,h=>by
   have ih:=memL_takes (a:=a) (b:=b) (up:=up) (e:=e) (e':=e') n (fun i hi=>h i (by omega))
   unfold G.cz
   rw [ih,h n (by omega)]
theorem foldN_congr {k:Nat} {f g:Int→G.Rep}:∀ (L:List Int) (acc:G.Cel),(∀ x ∈ L,G.ck k (f x)=G.ck k (g x))→(L.map f).foldl (wu k) acc=(L.map g).foldl (wu k) acc
 | [],_,_=>rfl
 | x :: L,acc,h=>by
   rw [List.map_cons,List.map_cons,List.foldl_cons,List.foldl_cons]
   have:wu k acc (f x)=wu k acc (g x):=by unfold wu;rw [h x List.mem_cons_self]
   rw [this]
   exact foldN_congr L _ fun y hy=>h y (List.mem_cons_of_mem _ hy)
theorem newest_fence {M M':TM} (h:GI M.gs) (hm:jr M=true) (e1:M'.rs=G.d9 (G.d9 M.rs M.up M.e) M.up (M.e+1)) (e2:M'.up=M.up) (e3:M'.e=M.e+1) (k:Nat):fu M' k=fu M k∧jr M'=true:=by
 have ok:G.GOK M.rs M.up:=h.ok
 have hm2:2≤(G.cz M.rs M.up M.e 3).length:=of_decide_eq_true hm
 rw [ac4 h] at e1
 have hg:=fun i (hi:i<3)=>G.abq ok (M.e+1) i hi
 have ht:∀ i:Nat,i<3→G.takes M'.rs M'.up M'.e i=G.takes M.rs M.up M.e i:=by
  intro i hi
  rw [e1,e2,e3,zl,hg i hi,show M.e+1 - 1=M.e by omega]
  by_cases t:G.takes M.rs M.up M.e i=true
  ·rw [if_pos ⟨hm2,t⟩,t]
   have:=t
   rw [zl,Bool.and_eq_true] at this
   rw [this.1];simp
  ·rw [if_neg (fun x=>t x.2)]
   have hf:=h.fl i hi
   have hf':(G.ah M.rs i).f≤M.e:=hf
   have hne:((G.ah M.rs i).f == M.e+1)=false:=by simp;omega
   rw [hne,Bool.and_false]
   cases h9:G.takes M.rs M.up M.e i
   ·rfl
   ·exact absurd h9 t
 have hL:G.cz M'.rs M'.up M'.e 3=G.cz M.rs M.up M.e 3:=by
  rw [e2] at ht ⊢
  exact memL_takes 3 ht
 refine ⟨?_,by unfold jr;rw [hL];exact hm⟩
 unfold fu um
 rw [hL]
 refine foldN_congr _ _ fun x hx=>?_
 obtain ⟨m,hm3,rfl⟩:=G.za M.rs M.up M.e 3 x hx
 rw [e1,hg m hm3]
 split <;> rfl
theorem begin_e {M:TM} (h:SI M) (ok:G.GOK M.rs M.up) {s:KS} (hs:s.f=0):(gq M s).2.e≤M.e+1:=by
 rcases yx h ok hs with ⟨_,e⟩|⟨_,_,e⟩|⟨_,_,D',e,_⟩
 ·rw [e];show M.e≤M.e+1;omega
 ·rw [e];show (dx M).e≤M.e+1;rw [(aae M).1];omega
 ·rw [e];exact Int.le_refl _
theorem change_e {M:TM} (h:SI M) (ok:G.GOK M.rs M.up) {c:CmD} (hc:c.f=0):(lu M c).2.e≤M.e+1:=by
 unfold lu
 split
 ·rename_i h0
  have hs:=h.out hc h0
  have h1:(ol M (c.o M.s)).2.e≤M.e+1:=by
   unfold ol
   split
   ·exact begin_e h ok hs
   ·have:=(h.keep ⟨h.e1,h.e9⟩ hs).2.1;rw [this];omega
  split
  ·exact h1
  ·exact h1
 ·show M.e≤M.e+1;omega
theorem play_e {M:TM} (h:SI M) (ok:G.GOK M.rs M.up) (x:ig):(gy M x).2.e≤M.e+1:=by
 have hle:∀ y:Int,y=M.e→y≤M.e+1:=fun y e=>by omega
 unfold gy
 repeat' split
 ·unfold av
  split
  ·rename_i hc
   split
   ·by_cases ho:(cmA x).op=7∨(cmA x).op=8∨(cmA x).op=9
    ·exact hle _ (ask2_s _ _ ho).2
    ·unfold kr
     rw [if_neg (by omega),if_neg (by omega),if_neg (by omega)]
     exact change_e (M:=iw M (cmA x)) (h.with rfl rfl rfl) ok hc
   ·exact hle _ rfl
  ·exact hle _ rfl
 ·exact hle _ (adt _ _ _).1
 ·exact hle _ (loseM_is _ _).1
 ·exact hle _ (upM_is _ _ _).1
 ·exact hle _ (upM_is _ _ _).1
 ·exact hle _ (syncM_is _ _).1
 ·unfold iq;split
  ·exact begin_e h ok (pow_ok h.f)
  ·exact begin_e h ok (pow_ok h.f)
 ·exact begin_e (M:=qx M.e M.s M.D M.rs M.up) h.new0 ok h.f
 ·exact hle _ rfl
theorem playL_e:∀ (l:List ig) {M:TM},All M→(gp M l).e≤M.e+l.length
 | [],M,_=>by show M.e≤M.e+(0:Nat);omega
 | x :: l,M,h=>by
   have h1:=playL_e l (h.play x)
   have h2:=play_e h.si h.gi.ok x
   show (gp (gy M x).2 l).e≤M.e+(l.length+1:Nat)
   omega
theorem power_says {M:TM} (hA:All M) (he:M.e<1000000) :
 ((iq M).1≠0→jr M=false∧(iq M).2.s=M.s) ∧
 ((iq M).1=0→(iq M).2.s=bf M.s∧(iq M).2.W=.map []∧(iq M).2.L=Go.Proofs.YtpkhdihoijkamaaGreatDoor.xm∧jr M=true∧∀ k,fu (iq M).2 k=fu M k):=by
 have hrm:=ready_most hA.gi
 rcases yx hA.si hA.gi.ok (pow_ok hA.si.f) with ⟨hr,e⟩|⟨_,h1,_⟩|⟨hr,_,D',e,_⟩
 ·have hp:iq M=(7,M):=by unfold iq;rw [e,if_neg (show ¬(7:Int)=0 by decide)]
  rw [hp]
  exact ⟨fun _=>⟨by rw [←hrm];exact hr,rfl⟩,fun h=>absurd (show (7:Int)=0 from h) (by decide)⟩
 ·omega
 ·have hp:iq M=(0,{ (gq M (bf M.s)).2 with L:=Go.Proofs.YtpkhdihoijkamaaGreatDoor.xm }):=by unfold iq;rw [if_pos (by rw [e])]
  rw [hp]
  refine ⟨fun h=>absurd rfl h,fun _=>⟨by show (gq M (bf M.s)).2.s=_;rw [e],by show (gq M (bf M.s)).2.W=_;rw [e],rfl,by rw [←hrm];exact hr,fun k=>?_⟩⟩
  exact (newest_fence (M:=M) (M':={ (gq M (bf M.s)).2 with L:=Go.Proofs.YtpkhdihoijkamaaGreatDoor.xm }) hA.gi (by rw [←hrm];exact hr) (by show (gq M (bf M.s)).2.rs=_;rw [e]) (by show (gq M (bf M.s)).2.up=_;rw [e]) (by show (gq M (bf M.s)).2.e=_;rw [e]) k).1
theorem new_says {M:TM} (hA:All M) (he:M.e<1000000) :
 ((dm M.e M.s M.D M.rs M.up).1≠0→jr M=false∧(dm M.e M.s M.D M.rs M.up).1=7) ∧
 ((dm M.e M.s M.D M.rs M.up).1=0→(dm M.e M.s M.D M.rs M.up).2.s=M.s∧(dm M.e M.s M.D M.rs M.up).2.W=.map []∧(dm M.e M.s M.D M.rs M.up).2.fly=[]∧(dm M.e M.s M.D M.rs M.up).2.e=M.e+1∧jr M=true∧∀ k,fu (dm M.e M.s M.D M.rs M.up).2 k=fu M k):=by
 have hrm:=ready_most hA.gi
 have hr0:mi (qx M.e M.s M.D M.rs M.up)=mi M:=rfl
 have hN:∀ X:Int × TM,gq (qx M.e M.s M.D M.rs M.up) M.s=X→dm M.e M.s M.D M.rs M.up=X:=fun X h=>h
 rcases yx (M:=qx M.e M.s M.D M.rs M.up) hA.si.new0 hA.gi.ok (show M.s.f=0 from hA.si.f) with ⟨hr,e⟩|⟨_,h1,_⟩|⟨hr,_,D',e,_⟩
 ·rw [hN _ e]
  exact ⟨fun _=>⟨by rw [←hrm,←hr0];exact hr,rfl⟩,fun h=>absurd (show (7:Int)=0 from h) (by decide)⟩
 ·exact absurd (show M.e=1000000 from h1) (by omega)
 ·rw [hN _ e]
  have hm:jr M=true:=by rw [←hrm,←hr0];exact hr
  refine ⟨fun h=>absurd rfl h,fun _=>⟨rfl,rfl,rfl,rfl,hm,fun k=>?_⟩⟩
  refine (newest_fence (M:=M) hA.gi hm ?_ ?_ ?_ k).1
  ·rfl
  ·rfl
  ·rfl
end Go.Proofs.YtpkhdihoijkamaaGreatDoor.U
namespace Go.Proofs
open Go.Shelf
def Tryz.keysA_ren:Go.Shelf.Ren:=⟨fun|7=>54|10=>90|n=>n,fun|23=>104|26=>3|3=>113|28=>111|0=>0|27=>110|33=>59|4=>4|n=>n,fun|n=>n⟩
theorem Tryz.keysA:Go.Proofs.SlLaysZI.n7 Tryz.prog Tryz.keysA_ren:={
 mixed:=by kernel_rfl
 f7:=⟨Tryz.f54.name,by decide,Tryz.func54.trans (congrArg some (by kernel_rfl))⟩
 f10:=⟨Tryz.f90.name,by decide,Tryz.func90.trans (congrArg some (by kernel_rfl))⟩
 t0:=Tryz.underlying0
 a0:=Tryz.isAgg0
 z0:=Tryz.sizeOf0
 v0:=Tryz.zeroValue0
 t4:=Tryz.underlying4
 a4:=Tryz.isAgg4
 z4:=Tryz.sizeOf4
 v4:=Tryz.zeroValue4
 t23:=Tryz.underlying104
 a23:=Tryz.isAgg104
 z23:=Tryz.sizeOf104
 v23:=Tryz.zeroValue104
 t26:=Tryz.underlying3
 a26:=Tryz.isAgg3
 z26:=Tryz.sizeOf3
 v26:=Tryz.zeroValue3
 t27:=Tryz.underlying110
 a27:=Tryz.isAgg110
 z27:=Tryz.sizeOf110
 v27:=Tryz.zeroValue110
 t28:=Tryz.underlying111
 a28:=Tryz.isAgg111
 z28:=Tryz.sizeOf111
 v28:=Tryz.zeroValue111
 t33:=Tryz.underlying59
 a33:=Tryz.isAgg59
 z33:=Tryz.sizeOf59
 v33:=Tryz.zeroValue59 }
def Tryz.sortedA_ren:Go.Shelf.Ren:=⟨fun|6=>53|8=>88|9=>89|11=>115|13=>117|12=>116|23=>155|24=>156|14=>146|15=>147|16=>148|17=>149|18=>150|19=>151|20=>152|21=>153|22=>154|25=>181|26=>182|27=>183|28=>184|29=>185|30=>186|31=>206|n=>n,fun|26=>3|28=>111|24=>25|0=>0|3=>3|37=>113|48=>183|50=>60|4=>4|40=>209|39=>208|45=>214|5=>5|9=>9|51=>232|55=>236|57=>253|58=>254|33=>59|n=>n,fun|n=>n⟩
theorem Tryz.sortedA:Go.Proofs.SlLaysZI.n6 Tryz.prog Tryz.sortedA_ren:={
 mixed:=by kernel_rfl
 f6:=⟨Tryz.f53.name,by decide,Tryz.func53.trans (congrArg some (by kernel_rfl))⟩
 f8:=⟨Tryz.f88.name,by decide,Tryz.func88.trans (congrArg some (by kernel_rfl))⟩
 f11:=⟨Tryz.f115.name,by decide,Tryz.func115.trans (congrArg some (by kernel_rfl))⟩
 t0:=Tryz.underlying0
 a0:=Tryz.isAgg0
 z0:=Tryz.sizeOf0
 v0:=Tryz.zeroValue0
 t24:=Tryz.underlying25
 a24:=Tryz.isAgg25
 z24:=Tryz.sizeOf25
 v24:=Tryz.zeroValue25
 t26:=Tryz.underlying3
 a26:=Tryz.isAgg3
 z26:=Tryz.sizeOf3
 v26:=Tryz.zeroValue3
 t28:=Tryz.underlying111
 a28:=Tryz.isAgg111
 z28:=Tryz.sizeOf111
 v28:=Tryz.zeroValue111
 i26:=by kernel_rfl }
def Tryz.sortA_ren:Go.Shelf.Ren:=⟨fun|5=>89|8=>117|7=>116|19=>155|20=>156|10=>146|11=>147|12=>148|13=>149|14=>150|15=>151|16=>152|17=>153|18=>154|30=>181|31=>182|32=>183|33=>184|34=>185|35=>186|40=>206|n=>n,fun|23=>25|25=>3|3=>3|32=>113|22=>25|0=>0|44=>183|46=>60|4=>4|36=>209|35=>208|41=>214|5=>5|9=>9|53=>232|57=>236|63=>253|64=>254|n=>n,fun|n=>n⟩
theorem Tryz.sortA:Go.Proofs.SlLaysM.n5 Tryz.prog Tryz.sortA_ren:={
 mixed:=by kernel_rfl
 f5:=⟨Tryz.f89.name,by decide,Tryz.func89.trans (congrArg some (by kernel_rfl))⟩
 f7:=⟨Tryz.f116.name,by decide,Tryz.func116.trans (congrArg some (by kernel_rfl))⟩
 f8:=Tryz.func117.trans (congrArg some (by kernel_rfl))
 f10:=⟨Tryz.f146.name,by decide,Tryz.func146.trans (congrArg some (by kernel_rfl))⟩
 f11:=⟨Tryz.f147.name,by decide,Tryz.func147.trans (congrArg some (by kernel_rfl))⟩
 f12:=⟨Tryz.f148.name,by decide,Tryz.func148.trans (congrArg some (by kernel_rfl))⟩
 f13:=⟨Tryz.f149.name,by decide,Tryz.func149.trans (congrArg some (by kernel_rfl))⟩
 f14:=⟨Tryz.f150.name,by decide,Tryz.func150.trans (congrArg some (by kernel_rfl))⟩
 f15:=⟨Tryz.f151.name,by decide,Tryz.func151.trans (congrArg some (by kernel_rfl))⟩
 f16:=⟨Tryz.f152.name,by decide,Tryz.func152.trans (congrArg some (by kernel_rfl))⟩
 f17:=⟨Tryz.f153.name,by decide,Tryz.func153.trans (congrArg some (by kernel_rfl))⟩
 f18:=⟨Tryz.f154.name,by decide,Tryz.func154.trans (congrArg some (by kernel_rfl))⟩
 f19:=Tryz.func155.trans (congrArg some (by kernel_rfl))
 f20:=Tryz.func156.trans (congrArg some (by kernel_rfl))
 f30:=⟨Tryz.f181.name,by decide,Tryz.func181.trans (congrArg some (by kernel_rfl))⟩
 f31:=Tryz.func182.trans (congrArg some (by kernel_rfl))
 f32:=Tryz.func183.trans (congrArg some (by kernel_rfl))
 f33:=⟨Tryz.f184.name,by decide,Tryz.func184.trans (congrArg some (by kernel_rfl))⟩
 f34:=⟨Tryz.f185.name,by decide,Tryz.func185.trans (congrArg some (by kernel_rfl))⟩
 f35:=⟨Tryz.f186.name,by decide,Tryz.func186.trans (congrArg some (by kernel_rfl))⟩
 f40:=⟨Tryz.f206.name,by decide,Tryz.func206.trans (congrArg some (by kernel_rfl))⟩
 t0:=Tryz.underlying0
 a0:=Tryz.isAgg0
 z0:=Tryz.sizeOf0
 v0:=Tryz.zeroValue0
 t3:=Tryz.underlying3
 a3:=Tryz.isAgg3
 z3:=Tryz.sizeOf3
 v3:=Tryz.zeroValue3
 t4:=Tryz.underlying4
 a4:=Tryz.isAgg4
 z4:=Tryz.sizeOf4
 v4:=Tryz.zeroValue4
 t5:=Tryz.underlying5
 a5:=Tryz.isAgg5
 z5:=Tryz.sizeOf5
 v5:=Tryz.zeroValue5
 t9:=Tryz.underlying9
 a9:=Tryz.isAgg9
 z9:=Tryz.sizeOf9
 v9:=Tryz.zeroValue9
 t22:=Tryz.underlying25
 a22:=Tryz.isAgg25
 z22:=Tryz.sizeOf25
 v22:=Tryz.zeroValue25
 t23:=Tryz.underlying25
 a23:=Tryz.isAgg25
 z23:=Tryz.sizeOf25
 v23:=Tryz.zeroValue25
 t25:=Tryz.underlying3
 a25:=Tryz.isAgg3
 z25:=Tryz.sizeOf3
 v25:=Tryz.zeroValue3
 t32:=Tryz.underlying113
 a32:=Tryz.isAgg113
 z32:=Tryz.sizeOf113
 v32:=Tryz.zeroValue113
 t35:=Tryz.underlying208
 a35:=Tryz.isAgg208
 z35:=Tryz.sizeOf208
 v35:=Tryz.zeroValue208
 t36:=Tryz.underlying209
 a36:=Tryz.isAgg209
 z36:=Tryz.sizeOf209
 v36:=Tryz.zeroValue209
 t41:=Tryz.underlying214
 a41:=Tryz.isAgg214
 z41:=Tryz.sizeOf214
 v41:=Tryz.zeroValue214
 t44:=Tryz.underlying183
 a44:=Tryz.isAgg183
 z44:=Tryz.sizeOf183
 v44:=Tryz.zeroValue183
 t46:=Tryz.underlying60
 a46:=Tryz.isAgg60
 z46:=Tryz.sizeOf60
 v46:=Tryz.zeroValue60
 t53:=Tryz.underlying232
 a53:=Tryz.isAgg232
 z53:=Tryz.sizeOf232
 v53:=Tryz.zeroValue232
 t57:=Tryz.underlying236
 a57:=Tryz.isAgg236
 z57:=Tryz.sizeOf236
 v57:=Tryz.zeroValue236
 t63:=Tryz.underlying253
 a63:=Tryz.isAgg253
 z63:=Tryz.sizeOf253
 v63:=Tryz.zeroValue253
 t64:=Tryz.underlying254
 a64:=Tryz.isAgg254
 z64:=Tryz.sizeOf254
 v64:=Tryz.zeroValue254 }
end Go.Proofs
namespace Go.Proofs.YtpkhdihoijkamaaGreatDoor.U
open Go.ChangeShapes Go.WideShapes Go.ChangeAt Go.RowKit Go.Deep Go.Maps Go.Sort Go.Shelf
open Go.Proofs.YtpkhdihoijkamaaGreatDoor.D
theorem sortsA (m:Nat):AnyZI.SortsIn Tryz.prog Tryz.sortedA_ren Fence.wide m :=
 ⟨fun blk off cap ss W hH hblk hsz=>callsIn_wide.2 (AnyM.slices_Sort_int Tryz.sortA blk off cap ss W hH hblk hsz),
  fun p cap W=>callsIn_wide.2 (AnyM.slices_Sort_int_none Tryz.sortA p cap W)⟩
set_option maxRecDepth 100000 in
set_option maxHeartbeats 4000000 in
theorem adm {w0 w:World} {t:Nat} {M:TM} {p:TP} (h:aa w0 w t M p) (hW:M.W=.map []) :
 Calls Tryz.prog 22 #[.pointer (some ⟨t,0,.none⟩)] w fun r w'=>r=.returned (.slice .none 0 0)∧Below w.heap.size w w':=by
 have c84:w.cell? ⟨t,84,.none⟩=some (.map (some p.m)):=h.cells.2.2.1
 have hown:qo w p.m (.map []):=by rw [←hW];exact h.mp
 obtain ⟨b,hb⟩:∃ b,p.m=b:=⟨_,rfl⟩
 rw [hb] at c84 hown
 clear h hW hb
 refine (callsIn_wide (n:=6)).1 ?_
 have hbl:=hown.lt
 have hseq:SeqGives Fence.wide 2 Tryz.prog 90 #[.pointer (some ⟨w.heap.size,0,.none⟩)] encZ (fun ss=>ss.Perm (intKeys (.map []:DataW Unit))) (Maps.size (.map []:DataW Unit)) (w.alloc (.cells #[.map (some b)] 104)) :=
  AnyZI.keys_gives (ρ:=Tryz.keysA_ren) { Tryz.keysA with } Fence.wide _ trivial rfl (by omega) w.heap.size b _ (.map []) _ (by simp) (by simp) (by
   obtain ⟨es,clock,hb,Ft,hs,hD⟩:=hown
   exact ⟨es,clock,(Below.heap_alloc _ _ b hbl).trans hb,Ft,hs,hD⟩)
 have cK:∀ mb W,CallsIn Fence.wide 5 Tryz.prog 54 #[.map mb] W fun e w'=>e=.returned (.func (.func 90) #[] #[.pointer (some ⟨W.heap.size,0,.none⟩)])∧w'=W.alloc (.cells #[.map mb] 104):=fun mb W=>AnyZI.keys_in Tryz.keysA Fence.wide 5 trivial rfl mb W
 have cS:=AnyZI.sorted_in Tryz.sortedA Fence.wide 5 trivial trivial trivial trivial rfl (by omega) (sortsA _) (enters_of Tryz.func89 (by kernel_rfl) rfl) 90 #[.pointer (some ⟨w.heap.size,0,.none⟩)] trivial (enters_of Tryz.func90 (by kernel_rfl) rfl) _ _ (by decide) (by decide) _ hseq
 change CallsIn _ _ Tryz.prog 53 _ _ _ at cS
 have hfK:Fence.wide.fn 54:=trivial
 have hfS:Fence.wide.fn 53:=trivial
 refine callsIn_of_wp Tryz.func22 rfl trivial ?_ rfl
 simp only [Tryz.ntmps22,List.size_toArray,List.length_cons,List.length_nil,Nat.reduceAdd,Nat.reduceSub,Array.replicate_succ,Array.replicate_zero,List.push_toArray,List.append_toArray,List.nil_append,List.cons_append]
 gi_wp2_with (first
  |(gi_at_call 54;refine (cK _ _).mono ?_;rintro e w' ⟨rfl,rfl⟩)
  |(gi_at_call 53;refine cS.mono ?_;rintro e w' ⟨v,ss,rfl,hS,hrow,hnil,hb⟩;obtain rfl:ss=[]:=List.Perm.eq_nil hS;obtain rfl:v=.slice .none 0 0:=hnil.2 rfl))
 go_ret
 exact ⟨rfl,((Below.refl _ w).alloc (Nat.le_refl _) _).trans (hb.mono (by simp))⟩
end Go.Proofs.YtpkhdihoijkamaaGreatDoor.U
