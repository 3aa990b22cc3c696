/- Proved: the tied card of the law TopAgain: for every row of acts, number she returns true and leaves her arguments as they were, where the listed variables of the library hold what the program's own text lays there. -/
import Derived.Test.YtpkhdihoijkamaaGreatDoorZA72
import Derived.Test.YtpkhdihoijkamaaGreatDoorZA38
import Derived.Test.YtpkhdihoijkamaaGreatDoorTie
import Derived.Test.YtpkhdihoijkamaaGreatDoorCards
import Derived.Test.YtpkhdihoijkamaaGreatDoorTopAgainC
import Derived.Lib.LaidTab
import Derived.SevenTiedAt
import Derived.Lay
namespace Go.Proofs.YtpkhdihoijkamaaGreatDoor
open Go.ChangeShapes Go.WideShapes Go.ChangeAt Go.RowKit Go.Maps
theorem topAgain_met (os:Os) (args:Array Value):laidMetH Tryz.prog Rows.topAgainRow.laid ((World.laidAll Tryz.prog os Rows.topAgainRow.laid).forCall (fun _ _=>0) ⟨#[],args,[]⟩).memory:=by
 rw [MakeChecks.laidMetH_plain _ _ _ (by kernel_rfl)]
 exact laidMet_laidAll _ (by kernel_rfl) (by kernel_rfl)
set_option maxRecDepth 100000 in
theorem topAgain_lifted (os:Os) (started:os.Started) (H:Type) (enc:TypeId × Value→H) :
 ReturnsInHanded {} Tryz.checked os 9 .any (fun w args=>(Rows.topAgainSpec.pre enc Tryz.prog Tryz.f9 [] false w args∧laidMetH Tryz.prog Rows.topAgainRow.laid w)∧sizedMet enc Tryz.prog Tryz.f9 (OpenSpec.ofChange Rows.topAgainSpec) false w args)
  (Rows.topAgainSpec.post enc Tryz.prog Tryz.f9 false true false false):=by
 refine zw (C:=Tryz.checked) own started (by kernel_rfl) Tryz.func9
  (ChangeSpec.witness_shaped (enc:=enc) (C:=Tryz.checked) (os:=os) (X:=fun w _=>laidMetH Tryz.prog Rows.topAgainRow.laid w) false (World.laidAll Tryz.prog os Rows.topAgainRow.laid) #[.slice .none 0 0,.int .i64 0] 8 (World.laidAll_os _ _ _) (World.shaped_of_ZipB (by kernel_rfl) (by kernel_rfl)) (by kernel_rfl) (by kernel_rfl) (by kernel_rfl) (topAgain_met os _)) ?_
 intro W base args ds gs before hval0 hW hL hsh
 have hval:∀ (j:Nat) t v,Tryz.f9.params[j]? = some t→args[j]? = some v→Value.okWide Tryz.prog W .any base t v:=hval0
 have hW':=hW
 obtain ⟨p,q,hA0,hV,rfl,hfz,hnd⟩:=hW
 have hA:DataW.TrodAll enc Tryz.prog W 0 (fun _=>true) true Tryz.f9.params.toList args.toList ds p:=hA0
 rw [Tryz.params9] at hA hval
 obtain ⟨v0,v1,d0,d1,p0,p1,rfl,rfl,rfl,h0,h1⟩:=trodAll_two hA
 obtain ⟨rfl,rfl⟩:=trodVars_none hV
 have k0:=h0
 have lt0:∀ x ∈ p0,x.block<W.heap.size:=by obtain ⟨m,hm⟩:=k0;exact DataW.trod_lt m _ _ _ hm
 obtain ⟨a0,n0,c0,l0,rfl,row0⟩:=D.aab (hval 0 22 v0 rfl rfl) h0
 have ops0:U.jq l0:=U.aad h0 row0
 obtain ⟨x1,rfl,rfl,rfl,wf1⟩:=open_int Tryz.underlying3 (hval 1 3 v1 rfl rfl) h1
 clear hA0 hval0
 refine (U.topAgain_walk W (aaf hL hsh (by kernel_rfl) (by kernel_rfl) (by kernel_rfl)) a0 n0 c0 l0 row0 ops0 x1 wf1).mono fun e W' ⟨he,bel⟩=>?_
 subst he
 exact ⟨_,rfl,_,_,_,[],_,[],hW',trodAll_mk1 (shut_bool Tryz.underlying4 _),(trodAll_cons_mk (Below.trod laidOut (by kernel_rfl) (of_decide_eq_true (by kernel_rfl)) k0 bel lt0) (trodAll_cons_mk (shut_int Tryz.underlying3 wf1) trodAll_mk0)),rfl,bel.frame _,fun h=>by cases h⟩
theorem topAgain_holds:Rows.TopAgainSaid :=
 OpenClaim.holds_of_wide 9 Tryz.f9 rfl rfl rfl rfl rfl rfl rfl ⟨rfl,rfl,rfl,rfl,rfl⟩ rfl rfl rfl rfl rfl (by as_aux_lemma=>kernel_rfl) Tryz.func9 topAgain_closed
  (of_decide_eq_true (by as_aux_lemma=>kernel_rfl)) (by unfold Func.isWrapper;first|(rw [if_pos (by decide +kernel)];kernel_rfl)|(rw [if_neg (by decide +kernel)];exact ⟨rfl,rfl⟩))
  (fun os started H enc _=>topAgain_lifted os started H enc)
theorem topAgain_card:Rows.TopAgainCardSaid :=
 Claim7.holds_tied_plain_at .later [] [.data,.data,.data,.data,.sentinel,.sentinel,.pinned] true Rows.topAgainCard.stood.harness true
  topAgain_holds (fun _ h=>by cases h) (by as_aux_lemma=>kernel_rfl) (fun _ h=>by cases h) topAgain_row_tie rfl ⟨rfl,rfl⟩ (by as_aux_lemma=>kernel_rfl) rfl
  (fun f fn hf hfn=>by
   obtain rfl:f=9:=Option.some.inj ((show Tryz.prog.funcNamed Rows.topAgainRow.func=some 9 by kernel_rfl).symm.trans hf) |>.symm
   obtain rfl:fn=Tryz.f9:=(Option.some.inj (Tryz.func9.symm.trans hfn)).symm
   exact ⟨by kernel_rfl,fun j t ht=>by
    rw [Tryz.params9] at ht
    match j,ht with
    | 0,ht =>
      obtain rfl:=Option.some.inj (show some 22=some t from ht)
      show Tryz.prog.wantsStandIn 22=false
      kernel_rfl
    | 1,ht =>
      obtain rfl:=Option.some.inj (show some 3=some t from ht)
      show Tryz.prog.wantsStandIn 3=false
      kernel_rfl
    | j+1+1,ht=>simp at ht⟩)
  (by as_aux_lemma=>kernel_rfl)
#print axioms topAgain_card
end Go.Proofs.YtpkhdihoijkamaaGreatDoor
