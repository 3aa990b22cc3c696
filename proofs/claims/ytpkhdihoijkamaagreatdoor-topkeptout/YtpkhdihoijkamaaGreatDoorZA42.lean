/- Several texts of this seat in one: Open, OTop. No statement of the seat is proved here. -/
import Derived.Test.YtpkhdihoijkamaaGreatDoorZA09
import Derived.Test.YtpkhdihoijkamaaGreatDoorZA30
namespace Go.Proofs.YtpkhdihoijkamaaGreatDoor
set_option maxRecDepth 100000
open Go.ChangeShapes Go.WideShapes Go.ChangeAt Go.RowKit Go.Deep
theorem Tryz.cellsInt:Tryz.prog.cellsOf 3=1:=by kernel_rfl
theorem Tryz.cellsBool:Tryz.prog.cellsOf 4=1:=by kernel_rfl
theorem own:ownKnob Tryz.prog.godebug=.none:=by kernel_rfl
theorem laidOut:laidOutB Tryz.prog=true:=by kernel_rfl
section
variable {H:Type} {enc:TypeId × Value→H}
end
set_option maxRecDepth 100000
theorem Tryz.cellsCommand:Tryz.prog.cellsOf 24=9:=by kernel_rfl
theorem Tryz.cellsString:Tryz.prog.cellsOf 9=1:=by kernel_rfl
section
variable {H:Type} {enc:TypeId × Value→H}
theorem ac5 {W:World} {base:Nat} {v:Value} {d:DataW H} {ps:List MemPlace} (hv:Value.okWide Tryz.prog W .any base 24 v) (h:DataW.Trod enc Tryz.prog W 0 (fun _=>true) true 24 v d ps) :
 ∃ op who key new kind at' st da wa,v=cmV op who key new kind at' st da wa∧(Lit.int .i64 op).wf=true∧da.size≤9223372036854775807∧wa.size≤9223372036854775807:=by
 obtain ⟨cs,rfl,hsz⟩:=okWide_struct Tryz.underlying24 hv
 rw [Tryz.cellsCommand] at hsz
 obtain ⟨cs⟩:=cs
 obtain ⟨fuel,hf⟩:=h
 have hml:maxLen≤9223372036854775807:=by unfold maxLen;decide
 match cs,hsz with
 | [c0,c1,c2,c3,c4,c5,c6,c7,c8],_ =>
   obtain ⟨xs,m,_,_,_,hlen,hfld⟩:=DataW.trod_struct Tryz.underlying24 hf
   match xs,hlen with
   | [x0,x1,x2,x3,x4,x5,x6,x7,x8],_ =>
     have f0:=hfld 0 _ rfl
     have f1:=hfld 1 _ rfl
     have f2:=hfld 2 _ rfl
     have f3:=hfld 3 _ rfl
     have f4:=hfld 4 _ rfl
     have f5:=hfld 5 _ rfl
     have f6:=hfld 6 _ rfl
     have f7:=hfld 7 _ rfl
     have f8:=hfld 8 _ rfl
     simp [Value.cells,Tryz.cellsInt,Tryz.cellsString,Tryz.cellsBool] at f0 f1 f2 f3 f4 f5 f6 f7 f8
     obtain ⟨op,e0,_,wf0⟩:=DataW.trod_int Tryz.underlying3 f0
     obtain ⟨who,e1,_,_⟩:=DataW.trod_int Tryz.underlying3 f1
     obtain ⟨key,e2,_,_⟩:=DataW.trod_int Tryz.underlying3 f2
     obtain ⟨new,e3,_,_⟩:=DataW.trod_int Tryz.underlying3 f3
     obtain ⟨kind,e4,_,_⟩:=DataW.trod_int Tryz.underlying3 f4
     obtain ⟨at',e5,_,_⟩:=DataW.trod_int Tryz.underlying3 f5
     obtain ⟨st,e6,_⟩:=DataW.trod_bool Tryz.underlying4 f6
     obtain ⟨da,e7,_,z7⟩:=DataW.trod_string Tryz.underlying9 f7
     obtain ⟨wa,e8,_,z8⟩:=DataW.trod_string Tryz.underlying9 f8
     simp only [List.cons.injEq,and_true] at e0 e1 e2 e3 e4 e5 e6 e7 e8
     subst e0 e1 e2 e3 e4 e5 e6 e7 e8
     exact ⟨op,who,key,new,kind,at',st,da,wa,rfl,wf0,by omega,by omega⟩
end
end Go.Proofs.YtpkhdihoijkamaaGreatDoor
