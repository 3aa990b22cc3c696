/- Proved: the tied card of the law TopKeptOut: for every row of acts, command, row of numbers she returns true and leaves her arguments as they were, where the listed variables of the library hold what the program's own text lays there. -/
import Derived.Test.YtpkhdihoijkamaaGreatDoorZA76
import Derived.Test.YtpkhdihoijkamaaGreatDoorZA38
import Derived.Test.YtpkhdihoijkamaaGreatDoorTie
import Derived.Test.YtpkhdihoijkamaaGreatDoorCards
import Derived.Test.YtpkhdihoijkamaaGreatDoorTopKeptOutC
import Derived.Test.YtpkhdihoijkamaaGreatDoorZA42
import Derived.Lib.LaidTab
import Derived.SevenTiedAt
import Derived.Lay
namespace Go.Proofs.YtpkhdihoijkamaaGreatDoor
open Go.ChangeShapes Go.WideShapes Go.ChangeAt Go.RowKit Go.Maps
theorem topKeptOut_met (os:Os) (args:Array Value):laidMetH Tryz.prog Rows.topKeptOutRow.laid ((World.laidAll Tryz.prog os Rows.topKeptOutRow.laid).forCall (fun _ _=>0) ⟨#[],args,[]⟩).memory:=by
 rw [MakeChecks.laidMetH_plain _ _ _ (by kernel_rfl)]
 exact laidMet_laidAll _ (by kernel_rfl) (by kernel_rfl)
set_option maxRecDepth 100000 in
theorem topKeptOut_lifted (os:Os) (started:os.Started) (H:Type) (enc:TypeId × Value→H) :
 ReturnsInHanded {} Tryz.checked os 3 .any (fun w args=>(Rows.topKeptOutSpec.pre enc Tryz.prog Tryz.f3 [] false w args∧laidMetH Tryz.prog Rows.topKeptOutRow.laid w)∧sizedMet enc Tryz.prog Tryz.f3 (OpenSpec.ofChange Rows.topKeptOutSpec) false w args)
  (Rows.topKeptOutSpec.post enc Tryz.prog Tryz.f3 false true false false):=by
 refine zw (C:=Tryz.checked) own started (by kernel_rfl) Tryz.func3
  (ChangeSpec.witness_shaped (enc:=enc) (C:=Tryz.checked) (os:=os) (X:=fun w _=>laidMetH Tryz.prog Rows.topKeptOutRow.laid w) false (World.laidAll Tryz.prog os Rows.topKeptOutRow.laid) #[.slice .none 0 0,.agg #[.int .i64 0,.int .i64 0,.int .i64 0,.int .i64 0,.int .i64 0,.int .i64 0,.bool false,.string ⟨#[]⟩,.string ⟨#[]⟩],.slice .none 0 0] 8 (World.laidAll_os _ _ _) (World.shaped_of_ZipB (by kernel_rfl) (by kernel_rfl)) (by kernel_rfl) (by kernel_rfl) (by kernel_rfl) (topKeptOut_met os _)) ?_
 intro W base args ds gs before hval0 hW hL hsh
 have hval:∀ (j:Nat) t v,Tryz.f3.params[j]? = some t→args[j]? = some v→Value.okWide Tryz.prog W .any base t v:=hval0
 have hW':=hW
 obtain ⟨p,q,hA0,hV,rfl,hfz,hnd⟩:=hW
 have hA:DataW.TrodAll enc Tryz.prog W 0 (fun _=>true) true Tryz.f3.params.toList args.toList ds p:=hA0
 rw [Tryz.params3] at hA hval
 obtain ⟨v0,v1,v2,d0,d1,d2,p0,p1,p2,rfl,rfl,rfl,h0,h1,h2⟩:=trodAll_three hA
 obtain ⟨rfl,rfl⟩:=trodVars_none hV
 have k0:=h0
 have lt0:∀ x ∈ p0,x.block<W.heap.size:=by obtain ⟨m,hm⟩:=k0;exact DataW.trod_lt m _ _ _ hm
 obtain ⟨a0,n0,c0,l0,rfl,row0⟩:=D.aab (hval 0 22 v0 rfl rfl) h0
 have ops0:U.jq l0:=U.aad h0 row0
 have k1:=h1
 have lt1:∀ x ∈ p1,x.block<W.heap.size:=by obtain ⟨m,hm⟩:=k1;exact DataW.trod_lt m _ _ _ hm
 obtain ⟨op1,who1,key1,new1,ty1,at1,st1,da1,wa1,rfl,ow1,dz1,wz1⟩:=ac5 (hval 1 24 v1 rfl rfl) h1
 have k2:=h2
 have lt2:∀ x ∈ p2,x.block<W.heap.size:=by obtain ⟨m,hm⟩:=k2;exact DataW.trod_lt m _ _ _ hm
 obtain ⟨a2,n2,c2,l2,rfl,row2⟩:=U.open_nums (hval 2 25 v2 rfl rfl) h2
 clear hA0 hval0
 refine (U.topKeptOut_walk W (aaf hL hsh (by kernel_rfl) (by kernel_rfl) (by kernel_rfl)) a0 n0 c0 l0 row0 ops0 ⟨op1,who1,key1,new1,ty1,at1,st1,da1,wa1⟩ ow1 dz1 wz1 a2 n2 c2 l2 row2).mono fun e W' ⟨he,bel⟩=>?_
 subst he
 exact ⟨_,rfl,_,_,_,[],_,[],hW',trodAll_mk1 (shut_bool Tryz.underlying4 _),(trodAll_cons_mk (Below.trod laidOut (by kernel_rfl) (of_decide_eq_true (by kernel_rfl)) k0 bel lt0) (trodAll_cons_mk (Below.trod laidOut (by kernel_rfl) (of_decide_eq_true (by kernel_rfl)) k1 bel lt1) (trodAll_cons_mk (Below.trod laidOut (by kernel_rfl) (of_decide_eq_true (by kernel_rfl)) k2 bel lt2) trodAll_mk0))),rfl,bel.frame _,fun h=>by cases h⟩
theorem topKeptOut_holds:Rows.TopKeptOutSaid :=
 OpenClaim.holds_of_wide 3 Tryz.f3 rfl rfl rfl rfl rfl rfl rfl ⟨rfl,rfl,rfl,rfl,rfl⟩ rfl rfl rfl rfl rfl (by as_aux_lemma=>kernel_rfl) Tryz.func3 topKeptOut_closed
  (of_decide_eq_true (by as_aux_lemma=>kernel_rfl)) (by unfold Func.isWrapper;first|(rw [if_pos (by decide +kernel)];kernel_rfl)|(rw [if_neg (by decide +kernel)];exact ⟨rfl,rfl⟩))
  (fun os started H enc _=>topKeptOut_lifted os started H enc)
theorem topKeptOut_card:Rows.TopKeptOutCardSaid :=
 Claim7.holds_tied_plain_at .later [] [.data,.data,.data,.data,.sentinel,.sentinel,.pinned] true Rows.topKeptOutCard.stood.harness true
  topKeptOut_holds (fun _ h=>by cases h) (by as_aux_lemma=>kernel_rfl) (fun _ h=>by cases h) topKeptOut_row_tie rfl ⟨rfl,rfl⟩ (by as_aux_lemma=>kernel_rfl) rfl
  (fun f fn hf hfn=>by
   obtain rfl:f=3:=Option.some.inj ((show Tryz.prog.funcNamed Rows.topKeptOutRow.func=some 3 by kernel_rfl).symm.trans hf) |>.symm
   obtain rfl:fn=Tryz.f3:=(Option.some.inj (Tryz.func3.symm.trans hfn)).symm
   exact ⟨by kernel_rfl,fun j t ht=>by
    rw [Tryz.params3] at ht
    match j,ht with
    | 0,ht =>
      obtain rfl:=Option.some.inj (show some 22=some t from ht)
      show Tryz.prog.wantsStandIn 22=false
      kernel_rfl
    | 1,ht =>
      obtain rfl:=Option.some.inj (show some 24=some t from ht)
      show Tryz.prog.wantsStandIn 24=false
      kernel_rfl
    | 2,ht =>
      obtain rfl:=Option.some.inj (show some 25=some t from ht)
      show Tryz.prog.wantsStandIn 25=false
      kernel_rfl
    | j+1+1+1,ht=>simp at ht⟩)
  (by as_aux_lemma=>kernel_rfl)
#print axioms topKeptOut_card
end Go.Proofs.YtpkhdihoijkamaaGreatDoor
