/- Several texts of this seat in one: ELift. No statement of the seat is proved here. -/
import Derived.Test.YtpkhdihoijkamaaGreatDoorRows
import Derived.Test.YtpkhdihoijkamaaGreatDoorZA08
import Derived.HandedShaped
import Derived.Stop.Joined
import Derived.LaidSub
import Derived.MakeChecks
import Derived.OpenShut
import Derived.ChangeOld
import Derived.LaidMore
namespace Go.Proofs.YtpkhdihoijkamaaGreatDoor
open Go.ChangeShapes Go.WideShapes Go.ChangeAt Go.RowKit Go.Maps
theorem own:ownKnob Tryz.prog.godebug=.none:=by kernel_rfl
theorem laidOut:laidOutB Tryz.prog=true:=by kernel_rfl
section
variable {H:Type} {enc:TypeId × Value→H}
theorem zw {C:Checked} {os:Os} {f:FuncId} {fn:Func} {s:ChangeSpec} {apart fresh handsOn again:Bool} {laid:List (String × DataW Unit)}
 (hown:ownKnob C.prog.godebug=.none) (started:os.Started) (noInit:C.prog.inits.idxOf? f=.none) (hfn:C.prog.funcs[f]? = some fn)
 (witness:∃ (w:World) (tape:Tape) (i:Input),w.os=os∧(w.forCall tape i).Shaped C.prog∧i.vars=[]∧Input.okWide C.prog (w.forCall tape i) .any w.heap.size f i ∧
  ((s.pre enc C.prog fn [] apart (w.forCall tape i).memory i.args∧laidMetH C.prog laid (w.forCall tape i).memory)∧sizedMet enc C.prog fn (OpenSpec.ofChange s) apart (w.forCall tape i).memory i.args)∧({}:Assume).holds C.prog (lone (Frame.enter C.prog f i.args .normal) [] (w.forCall tape i)))
 (contract:∀ (W:World) (base:Nat) (args:Array Value) (ds gs:List (DataW H)) (before:List MemPlace),
  (∀ (j:Nat) t v,fn.params[j]? = some t→args[j]? = some v→Value.okWide C.prog W .any base t v)→DataW.Whole enc C.prog fn.params.toList s.vars apart W args.toList ds gs before →
  laidMetH C.prog laid W→W.ShapedOpen C.prog →
  Calls C.prog f args W fun e W'=>∃ v,e=.returned v∧s.post enc C.prog fn apart fresh handsOn again W args v W') :
 ReturnsInHanded {} C os f .any (fun w args=>(s.pre enc C.prog fn [] apart w args∧laidMetH C.prog laid w)∧sizedMet enc C.prog fn (OpenSpec.ofChange s) apart w args) (s.post enc C.prog fn apart fresh handsOn again):=by
 refine returnsInHanded_of_calls hown started noInit witness ?_
 intro w tape i _ hsh _ hok hpre _
 obtain ⟨_,_,_,fn',hfn',_,_,_,_,hval⟩:=hok
 obtain rfl:fn'=fn:=Option.some.inj (hfn'.symm.trans hfn)
 obtain ⟨⟨⟨ds,gs,before,hw,_⟩,hx⟩,_⟩:=hpre
 have hx':laidMetH C.prog laid (w.forCall tape i).memory:=hx
 refine (contract (w.forCall tape i) w.heap.size i.args ds gs before hval (hw.of_heap (by rfl)) (hx'.of_heap (by rfl)) hsh).mono fun e W' ⟨v,he,hp⟩=>?_
 subst he
 exact ChangeSpec.post_blind hp
end
set_option maxRecDepth 100000 in
theorem iface_cells {W:World} {fuel:Nat} {cs:List Value} {n:String} {d:DataW Unit} {p:List MemPlace} {ty:TypeId} {ms:TypeDesc} (ht:Tryz.prog.underlying ty=some ms) (hms:(match ms with | .interface _=>true|_=>false)=true)
 (h:DataW.trod (fun _=>()) Tryz.prog W 0 (fun _=>true) false fuel ty cs=some (.iface n d,p)):∃ u v,cs=[.iface u v]:=by
 cases fuel with
 | zero=>simp [DataW.trod] at h
 | succ m =>
   unfold DataW.trod at h
   rw [ht] at h
   split at h <;> simp_all
theorem sentinel {W:World} {nm:String} {n:String} {d:DataW Unit} {g:Nat} {ty:TypeId} {ms:TypeDesc} (hg:Tryz.prog.globalNamed nm=some g) (hty:(Tryz.prog.globals[g]?).map (·.type)=some ty) (ht:Tryz.prog.underlying ty=some ms) (hms:(match ms with | .interface _=>true|_=>false)=true)
 (h:laidMet Tryz.prog [(nm,.iface n d)] W):∃ t p,W.var? Tryz.prog nm=some #[.iface t p]:=by
 obtain ⟨ps,⟨g',t',cs,fuel,p,q,hg',ht',hvar,hd,_,_⟩,_⟩:=h
 obtain rfl:=Option.some.inj (hg.symm.trans hg')
 obtain rfl:=Option.some.inj (hty.symm.trans ht')
 obtain ⟨u,v,e⟩:=iface_cells ht hms hd
 obtain ⟨cs⟩:=cs
 simp only at e
 subst e
 exact ⟨u,v,hvar⟩
theorem maxlen {W:World} (h:W.ShapedOpen Tryz.prog):∃ m,W.var? Tryz.prog "internal/bytealg.MaxLen"=some #[.int .i64 m]:=by
 first
 | have hg:Tryz.prog.globalNamed "internal/bytealg.MaxLen"=some 0:=by kernel_rfl
   have hz:0<Tryz.prog.globals.size:=of_decide_eq_true (by kernel_rfl)
   have h0:((begin Tryz.prog (fun _ _=>0) default).world.heap[0]?).bind Obj.row? = some (#[.int .i64 0],3):=by kernel_rfl
   obtain ⟨m,hm⟩:=Go.Proofs.cell_of_shapedOpen_int h hz h0 rfl (by kernel_rfl) (by kernel_rfl) Tryz.underlying3
   obtain ⟨cs,hh,hs,_⟩:=h.1 0 _ _ hz h0
   refine ⟨m,?_⟩
   unfold World.var?
   rw [hg]
   simp only [Option.bind_some,hh]
   obtain ⟨cs⟩:=cs
   match cs,hs with
   | [v],_ =>
     have:W.cell? ⟨0,0,.none⟩=some v:=by simp [World.cell?,hh]
     rw [this] at hm
     rw [Option.some.inj hm]
 | have hg:Tryz.prog.globalNamed "internal/bytealg.MaxLen"=some 1:=by kernel_rfl
   have hz:1<Tryz.prog.globals.size:=of_decide_eq_true (by kernel_rfl)
   have h0:((begin Tryz.prog (fun _ _=>0) default).world.heap[1]?).bind Obj.row? = some (#[.int .i64 0],3):=by kernel_rfl
   obtain ⟨m,hm⟩:=Go.Proofs.cell_of_shapedOpen_int h hz h0 rfl (by kernel_rfl) (by kernel_rfl) Tryz.underlying3
   obtain ⟨cs,hh,hs,_⟩:=h.1 1 _ _ hz h0
   refine ⟨m,?_⟩
   unfold World.var?
   rw [hg]
   simp only [Option.bind_some,hh]
   obtain ⟨cs⟩:=cs
   match cs,hs with
   | [v],_ =>
     have:W.cell? ⟨1,0,.none⟩=some v:=by simp [World.cell?,hh]
     rw [this] at hm
     rw [Option.some.inj hm]
 | have hg:Tryz.prog.globalNamed "internal/bytealg.MaxLen"=some 2:=by kernel_rfl
   have hz:2<Tryz.prog.globals.size:=of_decide_eq_true (by kernel_rfl)
   have h0:((begin Tryz.prog (fun _ _=>0) default).world.heap[2]?).bind Obj.row? = some (#[.int .i64 0],3):=by kernel_rfl
   obtain ⟨m,hm⟩:=Go.Proofs.cell_of_shapedOpen_int h hz h0 rfl (by kernel_rfl) (by kernel_rfl) Tryz.underlying3
   obtain ⟨cs,hh,hs,_⟩:=h.1 2 _ _ hz h0
   refine ⟨m,?_⟩
   unfold World.var?
   rw [hg]
   simp only [Option.bind_some,hh]
   obtain ⟨cs⟩:=cs
   match cs,hs with
   | [v],_ =>
     have:W.cell? ⟨2,0,.none⟩=some v:=by simp [World.cell?,hh]
     rw [this] at hm
     rw [Option.some.inj hm]
 | have hg:Tryz.prog.globalNamed "internal/bytealg.MaxLen"=some 3:=by kernel_rfl
   have hz:3<Tryz.prog.globals.size:=of_decide_eq_true (by kernel_rfl)
   have h0:((begin Tryz.prog (fun _ _=>0) default).world.heap[3]?).bind Obj.row? = some (#[.int .i64 0],3):=by kernel_rfl
   obtain ⟨m,hm⟩:=Go.Proofs.cell_of_shapedOpen_int h hz h0 rfl (by kernel_rfl) (by kernel_rfl) Tryz.underlying3
   obtain ⟨cs,hh,hs,_⟩:=h.1 3 _ _ hz h0
   refine ⟨m,?_⟩
   unfold World.var?
   rw [hg]
   simp only [Option.bind_some,hh]
   obtain ⟨cs⟩:=cs
   match cs,hs with
   | [v],_ =>
     have:W.cell? ⟨3,0,.none⟩=some v:=by simp [World.cell?,hh]
     rw [this] at hm
     rw [Option.some.inj hm]
theorem aaf {W:World} {l:List (String × DataW Unit)} (h:laidMetH Tryz.prog l W) (hs:W.ShapedOpen Tryz.prog)
 (e1:l.filter (fun x=>x.1 == "internal/strconv.uint64pow10")=[("internal/strconv.uint64pow10",Lib.tabData .u64 Lib.pow10Tab)])
 (e2:l.filter (fun x=>x.1 == "strconv.ErrSyntax")=[("strconv.ErrSyntax",Rows.laid_strconv_ErrSyntax)])
 (e3:l.filter (fun x=>x.1 == "strconv.ErrRange")=[("strconv.ErrRange",Rows.laid_strconv_ErrRange)]):K.Laid W:=by
 have ht:=h.filter (fun x=>x.1 == "internal/strconv.uint64pow10")
 rw [e1,MakeChecks.laidMetH_plain _ _ _ (by kernel_rfl)] at ht
 have hy:=h.filter (fun x=>x.1 == "strconv.ErrSyntax")
 rw [e2,MakeChecks.laidMetH_plain _ _ _ (by kernel_rfl)] at hy
 have hr:=h.filter (fun x=>x.1 == "strconv.ErrRange")
 rw [e3,MakeChecks.laidMetH_plain _ _ _ (by kernel_rfl)] at hr
 exact ⟨Lib.tabIs_of_head (by kernel_rfl:Tryz.prog.globalNamed "internal/strconv.uint64pow10"=some 5) (by kernel_rfl) Tryz.underlying292 Tryz.underlying60 (by kernel_rfl) (by kernel_rfl) ht,sentinel (by kernel_rfl:Tryz.prog.globalNamed "strconv.ErrSyntax"=some 1) (by kernel_rfl) Tryz.underlying32 rfl hy,sentinel (by kernel_rfl:Tryz.prog.globalNamed "strconv.ErrRange"=some 2) (by kernel_rfl) Tryz.underlying32 rfl hr,maxlen hs⟩
end Go.Proofs.YtpkhdihoijkamaaGreatDoor
