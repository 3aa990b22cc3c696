/- Several texts of this seat in one: ETrim, CBase, CLeaf, CCheck. No statement of the seat is proved here. -/
import Derived.Test.YtpkhdihoijkamaaGreatDoorZA05
import Derived.Test.YtpkhdihoijkamaaGreatDoorRows
import Derived.WalkKit
import Derived.WalkSpells
import Derived.WalkLawsBesides
import Derived.ProofKit
import Derived.OpenShut
import Derived.ChangeOld
import Derived.Maps.OwnSet
import Derived.Deep.QuietTactic
import Derived.BigQuiet
set_option maxHeartbeats 4000000
set_option maxRecDepth 100000
namespace Go.Proofs.YtpkhdihoijkamaaGreatDoor.D
open Go.ChangeShapes Go.WideShapes Go.ChangeAt Go.RowKit Go.Deep
theorem trimByte_any (p:List UInt8) (z:Nat) (hp:∀ c,p.getLast? = some c→c≠0) (hl:p.length+z≤1000000) (w:World) :
 Calls Tryz.prog 141 #[.string ⟨(p ++ List.replicate z 0).toArray⟩,.int .u8 0] w fun e w'=>e=.returned (.string ⟨p.toArray⟩)∧w'=w:=by
 go_enter Tryz.func141,Tryz.ntmps141
 go_wp2_with fail
 go_loopw [0] (fun sv wr=>∃ (j:Nat) (x:ByteArray),j≤z∧x=⟨(p ++ List.replicate j 0).toArray⟩∧sv=.string x∧wr=w) (fun sv _=>match sv with | .string x=>x.size|_=>0)
 case atStart=>exact ⟨z,_,Nat.le_refl _,rfl,rfl,rfl⟩
 case round =>
  obtain ⟨j,x,hj,hx,rfl,rfl⟩:=hrel
  have hsz:x.size=p.length+j:=by rw [hx];simp [ByteArray.size]
  have HX:Hid (x=⟨(p ++ List.replicate j 0).toArray⟩):=hx
  clear hx
  cases j with
  | zero =>
    rw [Nat.add_zero] at hsz
    have HR:Hid (x=⟨p.toArray⟩):=by show _=_;rw [HX.out];simp
    rcases Nat.eq_zero_or_pos p.length with h0|h0
    ·rw [h0] at hsz
     go_wp2
     go_ret
     exact ⟨by rw [HR.out];rfl,rfl⟩
    ·obtain ⟨m,hm⟩:∃ m,p.length=m+1:=⟨p.length - 1,by omega⟩
     rw [hm] at hsz
     have hb:∀ h:m<x.size,((x[m].toNat:Int) == 0)=false:=by
      intro h
      have h1:p[m]? = some p[m]:=List.getElem?_eq_getElem (by omega)
      have h2:=hp p[m] (by rw [List.getLast?_eq_getElem?,show p.length - 1=m by omega];exact h1)
      have h3:x[m]=p[m]:=by simp [HR.out,ByteArray.getElem_eq_getElem_data]
      rw [h3]
      simp only [beq_eq_false_iff_ne,ne_eq]
      intro e
      exact h2 (UInt8.toNat_inj.1 (show p[m].toNat=0 by omega))
     have hbx:=hb (by omega)
     obtain ⟨c,hc⟩:∃ c,x[m]=c:=⟨_,rfl⟩
     rw [hc] at hbx
     have hml:(m:Int)+1≤1000001:=by omega
     clear hb h0 hm hp hl
     go_wp2
     go_ret
     exact ⟨by rw [HR.out];rfl,rfl⟩
  | succ j =>
    obtain ⟨m,hm⟩:∃ m,m=p.length+j:=⟨_,rfl⟩
    replace hsz:x.size=m+1:=by omega
    have hb:∀ h:m<x.size,x[m].toNat=0:=by
     intro h
     have h3:x[m]=(0:UInt8):=by
      simp [HX.out,ByteArray.getElem_eq_getElem_data,hm]
     rw [h3];rfl
    have hbx:=hb (by omega)
    have HN:Hid (x.extract 0 m=⟨(p ++ List.replicate j 0).toArray⟩):=by
     show _=_
     refine ByteArray.ext ?_
     rw [HX.out]
     simp [List.replicate_succ',hm]
    have hml:(m:Int)+1≤1000001:=by omega
    clear hb hp hl hm
    go_wp2_with fail
    refine ⟨⟨j,x.extract 0 m,by omega,HN.out,rfl,trivial⟩,?_⟩
    show (x.extract 0 m).size<x.size
    rw [ByteArray.size_extract];omega
theorem trimRight_any (p:List UInt8) (z:Nat) (hp:∀ c,p.getLast? = some c→c≠0) (hl:p.length+z≤1000000) (h0:0<p.length+z) (w:World) :
 Calls Tryz.prog 111 #[.string ⟨(p ++ List.replicate z 0).toArray⟩,.string ⟨#[0]⟩] w fun e w'=>e=.returned (.string ⟨p.toArray⟩)∧w'=w:=by
 have HC:Hid (Calls Tryz.prog 141 #[.string ⟨(p ++ List.replicate z 0).toArray⟩,.int .u8 0] w fun e w'=>e=.returned (.string ⟨p.toArray⟩)∧w'=w):=trimByte_any p z hp hl w
 obtain ⟨x,hx⟩:∃ x:ByteArray,(⟨(p ++ List.replicate z 0).toArray⟩:ByteArray)=x:=⟨_,rfl⟩
 have hsz:x.size=p.length+z:=by rw [←hx];simp [ByteArray.size]
 have hne:(x.toList == [])=false:=by
  rw [ByteArray.toList_eq]
  have:x.data.toList.length=x.size:=by simp
  cases hq:x.data.toList with
  | nil=>rw [hq] at this;simp at this;omega
  | cons a b=>rfl
 rw [hx] at HC ⊢
 clear hx hp hl h0 hsz
 go_enter Tryz.func111,Tryz.ntmps111
 go_wp2_with fail
 refine HC.out.mono ?_
 rintro e w1 ⟨rfl,rfl⟩
 go_wp2
 go_ret
 exact ⟨rfl,rfl⟩
def kpre:List UInt8:=[107,101,101,112,101,114,32]
theorem hasPre_any (r:List UInt8) (hl:r.length≤1000000) (w:World) :
 Calls Tryz.prog 199 #[.string ⟨(kpre ++ r).toArray⟩,.string ⟨#[107,101,101,112,101,114,32]⟩] w fun e w'=>e=.returned (.bool true)∧w'=w:=by
 obtain ⟨x,hx⟩:∃ x:ByteArray,(⟨(kpre ++ r).toArray⟩:ByteArray)=x:=⟨_,rfl⟩
 have hsz:x.size=r.length+7:=by rw [←hx];simp [ByteArray.size,kpre]
 have he:x.extract 0 7=⟨#[107,101,101,112,101,114,32]⟩:=by rw [←hx];exact ByteArray.ext (by simp [kpre])
 rw [hx]
 clear hx
 go_enter Tryz.func199,Tryz.ntmps199
 go_wp2
 go_ret
 exact ⟨rfl,rfl⟩
theorem trimPre_any (r:List UInt8) (hl:r.length≤1000000) (w:World) :
 Calls Tryz.prog 138 #[.string ⟨(kpre ++ r).toArray⟩,.string ⟨#[107,101,101,112,101,114,32]⟩] w fun e w'=>e=.returned (.string ⟨r.toArray⟩)∧w'=w:=by
 have HC:Hid (∀ w,Calls Tryz.prog 199 #[.string ⟨(kpre ++ r).toArray⟩,.string ⟨#[107,101,101,112,101,114,32]⟩] w fun e w'=>e=.returned (.bool true)∧w'=w):=fun w=>hasPre_any r hl w
 obtain ⟨x,hx⟩:∃ x:ByteArray,(⟨(kpre ++ r).toArray⟩:ByteArray)=x:=⟨_,rfl⟩
 have hsz:x.size=r.length+7:=by rw [←hx];simp [ByteArray.size,kpre]
 have he:x.extract 7 (r.length+7)=⟨r.toArray⟩:=by rw [←hx];exact ByteArray.ext (by simp [kpre])
 rw [hx] at HC ⊢
 clear hx
 go_enter Tryz.func138,Tryz.ntmps138
 go_wp2_with (go_at_call 175;go_in)
 refine (HC.out _).mono ?_
 rintro e w1 ⟨rfl,rfl⟩
 go_wp2
 go_ret
 exact ⟨rfl,rfl⟩
end Go.Proofs.YtpkhdihoijkamaaGreatDoor.D
namespace Go.Proofs.YtpkhdihoijkamaaGreatDoor.K
open Go.ChangeShapes Go.WideShapes Go.ChangeAt Go.RowKit Go.Maps
def tokE (v:Value):Option (DataW Value × List MemPlace):=some (.held v,[])
def kv1:Value:=.agg #[.string ⟨#[114,101,103,105,115,116,101,114]⟩,.bool true,.bool true,.bool false,.bool false,.bool true,.bool false,.bool false]
def kv2:Value:=.agg #[.string ⟨#[105,103,110,111,114,101]⟩,.bool true,.bool true,.bool false,.bool false,.bool true,.bool false,.bool false]
def kv3:Value:=.agg #[.string ⟨#[114,101,115,101,114,118,101]⟩,.bool true,.bool false,.bool true,.bool false,.bool false,.bool false,.bool false]
def kv4:Value:=.agg #[.string ⟨#[114,101,108,101,97,115,101]⟩,.bool true,.bool false,.bool true,.bool false,.bool false,.bool false,.bool false]
def kv5:Value:=.agg #[.string ⟨#[99,108,101,97,114]⟩,.bool true,.bool false,.bool false,.bool false,.bool false,.bool false,.bool false]
def kv6:Value:=.agg #[.string ⟨#[112,114,101,101,109,112,116]⟩,.bool true,.bool true,.bool true,.bool false,.bool false,.bool false,.bool false]
def kv7:Value:=.agg #[.string ⟨#[114,101,97,100]⟩,.bool false,.bool false,.bool false,.bool true,.bool false,.bool false,.bool false]
def kv8:Value:=.agg #[.string ⟨#[119,114,105,116,101]⟩,.bool false,.bool false,.bool false,.bool true,.bool false,.bool true,.bool false]
def kv9:Value:=.agg #[.string ⟨#[99,111,109,112,97,114,101]⟩,.bool false,.bool false,.bool false,.bool true,.bool false,.bool true,.bool true]
def kv0:Value:=.agg #[.string ⟨#[]⟩,.bool false,.bool false,.bool false,.bool false,.bool false,.bool false,.bool false]
def kd0:DataW Value:=.map []
def kd1:DataW Value:=kd0.put (.int .i64 1) (.held kv1)
def kd2:DataW Value:=kd1.put (.int .i64 2) (.held kv2)
def kd3:DataW Value:=kd2.put (.int .i64 3) (.held kv3)
def kd4:DataW Value:=kd3.put (.int .i64 4) (.held kv4)
def kd5:DataW Value:=kd4.put (.int .i64 5) (.held kv5)
def kd6:DataW Value:=kd5.put (.int .i64 6) (.held kv6)
def kd7:DataW Value:=kd6.put (.int .i64 7) (.held kv7)
def kd8:DataW Value:=kd7.put (.int .i64 8) (.held kv8)
def kd9:DataW Value:=kd8.put (.int .i64 9) (.held kv9)
def kindV (a:Int):Value:=if a=1 then kv1 else if a=2 then kv2 else if a=3 then kv3 else if a=4 then kv4 else if a=5 then kv5 else if a=6 then kv6 else if a=7 then kv7 else if a=8 then kv8 else if a=9 then kv9 else kv0
theorem lawI:Keyed Tryz.prog 3:=int_keyed Tryz.underlying3
theorem kzero (w:World):(zeroValue 92).run Tryz.prog w=.ok kv0 w:=by kernel_rfl
theorem kd9_eq:kd9=.map [(.int .i64 1,.held kv1),(.int .i64 2,.held kv2),(.int .i64 3,.held kv3),(.int .i64 4,.held kv4),(.int .i64 5,.held kv5),(.int .i64 6,.held kv6),(.int .i64 7,.held kv7),(.int .i64 8,.held kv8),(.int .i64 9,.held kv9)]:=by kernel_rfl
theorem kd_has_not (a:Int) (h:¬(1≤a∧a≤9)):Maps.has (.map [(.int .i64 1,.held kv1),(.int .i64 2,.held kv2),(.int .i64 3,.held kv3),(.int .i64 4,.held kv4),(.int .i64 5,.held kv5),(.int .i64 6,.held kv6),(.int .i64 7,.held kv7),(.int .i64 8,.held kv8),(.int .i64 9,.held kv9)]) (.int .i64 a)=false:=by
 rw [Maps.has_eq]
 simp only [List.any_cons,List.any_nil]
 repeat rw [Maps.sameKey_ne (by intro e;injection e;omega)]
 rfl
theorem kd_at (a:Int):kd9.atKey (.int .i64 a) (.held kv0)=.held (kindV a):=by
 rw [kd9_eq]
 by_cases h:1≤a∧a≤9
 ·have:a=1∨a=2∨a=3∨a=4∨a=5∨a=6∨a=7∨a=8∨a=9:=by omega
  rcases this with rfl|rfl|rfl|rfl|rfl|rfl|rfl|rfl|rfl <;> rfl
 ·rw [Maps.atKey_of_not_has (kd_has_not a h)]
  unfold kindV
  repeat rw [if_neg (by omega)]
theorem kd_has (a:Int):Maps.has kd9 (.int .i64 a)=decide (1≤a∧a≤9):=by
 rw [kd9_eq]
 by_cases h:1≤a∧a≤9
 ·rw [decide_eq_true h]
  have:a=1∨a=2∨a=3∨a=4∨a=5∨a=6∨a=7∨a=8∨a=9:=by omega
  rcases this with rfl|rfl|rfl|rfl|rfl|rfl|rfl|rfl|rfl <;> rfl
 ·rw [decide_eq_false h,kd_has_not a h]
theorem kinds_any (w:World):Calls Tryz.prog 46 #[] w fun e w'=>e=.returned (.map (some w.heap.size))∧w'.ownsMap Tryz.prog 3 tokE w.heap.size 9 kd9∧Below w.heap.size w w':=by
 have hmm:=@run_makeMap Tryz.prog
 have o0:=World.ownsMap_made w Tryz.prog 3 tokE
 obtain ⟨w1,h1,o1,g1⟩:=o0.update (t:=94) lawI Tryz.underlying94 (by decide) (key:=.int .i64 1) (val:=kv1) (keyOf_int_mk Tryz.underlying3 (by decide)) (ps:=[]) rfl
 obtain ⟨w2,h2,o2,g2⟩:=o1.update (t:=94) lawI Tryz.underlying94 (by decide) (key:=.int .i64 2) (val:=kv2) (keyOf_int_mk Tryz.underlying3 (by decide)) (ps:=[]) rfl
 obtain ⟨w3,h3,o3,g3⟩:=o2.update (t:=94) lawI Tryz.underlying94 (by decide) (key:=.int .i64 3) (val:=kv3) (keyOf_int_mk Tryz.underlying3 (by decide)) (ps:=[]) rfl
 obtain ⟨w4,h4,o4,g4⟩:=o3.update (t:=94) lawI Tryz.underlying94 (by decide) (key:=.int .i64 4) (val:=kv4) (keyOf_int_mk Tryz.underlying3 (by decide)) (ps:=[]) rfl
 obtain ⟨w5,h5,o5,g5⟩:=o4.update (t:=94) lawI Tryz.underlying94 (by decide) (key:=.int .i64 5) (val:=kv5) (keyOf_int_mk Tryz.underlying3 (by decide)) (ps:=[]) rfl
 obtain ⟨w6,h6,o6,g6⟩:=o5.update (t:=94) lawI Tryz.underlying94 (by decide) (key:=.int .i64 6) (val:=kv6) (keyOf_int_mk Tryz.underlying3 (by decide)) (ps:=[]) rfl
 obtain ⟨w7,h7,o7,g7⟩:=o6.update (t:=94) lawI Tryz.underlying94 (by decide) (key:=.int .i64 7) (val:=kv7) (keyOf_int_mk Tryz.underlying3 (by decide)) (ps:=[]) rfl
 obtain ⟨w8,h8,o8,g8⟩:=o7.update (t:=94) lawI Tryz.underlying94 (by decide) (key:=.int .i64 8) (val:=kv8) (keyOf_int_mk Tryz.underlying3 (by decide)) (ps:=[]) rfl
 obtain ⟨w9,h9,o9,g9⟩:=o8.update (t:=94) lawI Tryz.underlying94 (by decide) (key:=.int .i64 9) (val:=kv9) (keyOf_int_mk Tryz.underlying3 (by decide)) (ps:=[]) rfl
 have b0:Below w.heap.size w (w.alloc (.map #[] 0)):=(Below.refl _ _).alloc (Nat.le_refl _) _
 have b1:=b0.grown g1 b0.size (fun j hj=>by cases hj;exact Nat.le_refl _)
 have b2:=b1.grown g2 b1.size (fun j hj=>by cases hj;exact Nat.le_refl _)
 have b3:=b2.grown g3 b2.size (fun j hj=>by cases hj;exact Nat.le_refl _)
 have b4:=b3.grown g4 b3.size (fun j hj=>by cases hj;exact Nat.le_refl _)
 have b5:=b4.grown g5 b4.size (fun j hj=>by cases hj;exact Nat.le_refl _)
 have b6:=b5.grown g6 b5.size (fun j hj=>by cases hj;exact Nat.le_refl _)
 have b7:=b6.grown g7 b6.size (fun j hj=>by cases hj;exact Nat.le_refl _)
 have b8:=b7.grown g8 b7.size (fun j hj=>by cases hj;exact Nat.le_refl _)
 have b9:=b8.grown g9 b8.size (fun j hj=>by cases hj;exact Nat.le_refl _)
 simp only [kv1,kv2,kv3,kv4,kv5,kv6,kv7,kv8,kv9] at h1 h2 h3 h4 h5 h6 h7 h8 h9
 go_enter Tryz.func46,Tryz.ntmps46
 go_wp2
 go_ret
 exact ⟨rfl,o9,b9⟩
theorem fq {a b:Bool} (h:a=b):Ending.returned (.bool a)=.returned (.bool b):=by rw [h]
def ai (f:Int):Value:=if f=0 then .nilIface else .iface 96 (.int .i64 f)
def ky (t:Int):Bool:=t == 1 || t == 3 || t == 5 || t == 6 || t == 7 || t == 8
theorem kinds8 (t:Int):t=0∨t=1∨t=3∨t=5∨t=6∨t=7∨t=8∨((t == 0)=false∧(t == 1)=false∧(t == 3)=false∧(t == 5)=false∧(t == 6)=false∧(t == 7)=false∧(t == 8)=false):=by
 simp only [beq_eq_false_iff_ne];omega
theorem yc (t:Int) (w:World):Calls Tryz.prog 85 #[.int .i64 t] w fun e w'=>e=.returned (.bool (ky t))∧w'=w:=by
 rcases kinds8 t with rfl|rfl|rfl|rfl|rfl|rfl|rfl|⟨k0,k1,k3,k5,k6,k7,k8⟩
 case inr.inr.inr.inr.inr.inr.inr =>
  have HF:Hid (ky t=false):=by show _=_;simp [ky,k1,k3,k5,k6,k7,k8]
  go_enter Tryz.func85,Tryz.ntmps85
  go_wp2
  go_ret
  exact ⟨fq HF.out.symm,rfl⟩
 all_goals
  go_enter Tryz.func85,Tryz.ntmps85
  go_wp2
  go_ret
  exact ⟨rfl,rfl⟩
def mg (n:Int) (has:Bool) (most:Int):Int:=if n≠0∧has=false then 2 else if n<0∨most<n then 1 else 0
theorem adu (n:Int) (has:Bool) (most:Int) (w:World):Calls Tryz.prog 84 #[.int .i64 n,.bool has,.int .i64 most] w fun e w'=>e=.returned (ai (mg n has most))∧w'=w:=by
 by_cases h0:n=0
 ·subst h0
  by_cases hm:most<0
  ·have HF:Hid (mg 0 has most=1):=by show _=_;simp [mg,hm]
   go_enter Tryz.func84,Tryz.ntmps84
   go_wp2
   go_ret
   exact ⟨by rw [HF.out];rfl,rfl⟩
  ·have HF:Hid (mg 0 has most=0):=by show _=_;simp [mg];omega
   have h1:decide (most<0)=false:=by simp;omega
   go_enter Tryz.func84,Tryz.ntmps84
   go_wp2
   go_ret
   exact ⟨by rw [HF.out];rfl,rfl⟩
 ·have h0':(n == 0)=false:=by simpa using h0
  cases has
  ·have HF:Hid (mg n false most=2):=by show _=_;simp [mg,h0]
   go_enter Tryz.func84,Tryz.ntmps84
   go_wp2
   go_ret
   exact ⟨by rw [HF.out];rfl,rfl⟩
  ·by_cases h1:n<0
   ·have HF:Hid (mg n true most=1):=by show _=_;simp [mg,h1]
    go_enter Tryz.func84,Tryz.ntmps84
    go_wp2
    go_ret
    exact ⟨by rw [HF.out];rfl,rfl⟩
   ·have h1':decide (n<0)=false:=by simpa using h1
    by_cases h2:most<n
    ·have HF:Hid (mg n true most=1):=by show _=_;simp [mg,h2]
     go_enter Tryz.func84,Tryz.ntmps84
     go_wp2
     go_ret
     exact ⟨by rw [HF.out];rfl,rfl⟩
    ·have h2':decide (most<n)=false:=by simpa using h2
     have HF:Hid (mg n true most=0):=by show _=_;simp [mg];omega
     go_enter Tryz.func84,Tryz.ntmps84
     go_wp2
     go_ret
     exact ⟨by rw [HF.out];rfl,rfl⟩
def yf (l:List UInt8):Bool:=l.all fun b=>decide (97≤b.toNat) && decide (b.toNat≤122)
theorem smallB_at (s:ByteArray) (k:Nat) (h:k<s.size):yf (s.data.toList.drop k)=((decide (97≤(s[k]'h).toNat) && decide ((s[k]'h).toNat≤122)) && yf (s.data.toList.drop (k+1))):=by
 rw [List.drop_eq_getElem_cons (show k<s.data.toList.length from h)];rfl
theorem zk (s:ByteArray) (hs:s.size≤9223372036854775807) (w:World):Calls Tryz.prog 49 #[.string s] w fun e w'=>e=.returned (.bool (yf s.data.toList))∧w'=w:=by
 go_enter Tryz.func49,Tryz.ntmps49
 go_wp2
 go_loopw [3,6] (fun _ i wr=>∃ k:Nat,k≤s.size∧i=.int .i64 k∧wr=w∧yf s.data.toList=yf (s.data.toList.drop k)) (fun _ i _=>s.size - (intOf i).toNat)
 case atStart=>exact ⟨0,Nat.zero_le _,rfl,rfl,rfl⟩
 case round =>
  obtain ⟨k,hk,rfl,rfl,hsm⟩:=hrel
  have HS:Hid _:=hsm
  clear hsm
  by_cases hlt:k<s.size
  ·have hki:(k:Int)<(s.size:Int):=by omega
   have HD:Hid _:=smallB_at s k hlt
   by_cases h1:(s[k]'hlt).toNat<97
   ·go_wp2
    go_ret
    exact ⟨fq (by rw [HS.out,HD.out,decide_eq_false (by omega)];rfl),rfl⟩
   ·have h1':decide ((s[k]'hlt).toNat<97)=false:=by simpa using h1
    by_cases h2:122<(s[k]'hlt).toNat
    ·go_wp2
     go_ret
     exact ⟨fq (by rw [HS.out,HD.out,decide_eq_false (show ¬(s[k]'hlt).toNat≤122 by omega)];simp),rfl⟩
    ·have h2':decide (122<(s[k]'hlt).toNat)=false:=by simpa using h2
     go_wp2
     go_roundw
     case rel=>exact ⟨k+1,by omega,by go_num,by trivial,by rw [HS.out,HD.out,decide_eq_true (by omega),decide_eq_true (by omega)];rfl⟩
     case measure=>simp [intOf];omega
  ·have hlt':decide ((k:Int)<(s.size:Int))=false:=by simp;omega
   go_wp2
   go_ret
   exact ⟨fq (by rw [HS.out,List.drop_eq_nil_of_le (by simpa using hlt)];rfl),rfl⟩
theorem errV_no {f:Int} (h:f≠0):ai f=.iface 96 (.int .i64 f):=by simp [ai,h]
theorem below2 (w:World) (a b:Obj):Below w.heap.size w ((w.alloc a).alloc b):=((Below.refl _ _).alloc (Nat.le_refl _) _).alloc (by simp) _
abbrev kindA (wd:ByteArray) (kk kf kh ka ks kd kw:Bool):Value:=.agg #[.string wd,.bool kk,.bool kf,.bool kh,.bool ka,.bool ks,.bool kd,.bool kw]
abbrev cmdA (op who key new ty at':Int) (st:Bool) (d wt:ByteArray):Value:=.agg #[.int .i64 op,.int .i64 who,.int .i64 key,.int .i64 new,.int .i64 ty,.int .i64 at',.bool st,.string d,.string wt]
def qi (kk kf ka:Bool) (key new at':Int):Int:=if mg key kk 999≠0 then mg key kk 999 else if mg new kf 999≠0 then mg new kf 999 else mg at' ka 7
theorem zm (wd:ByteArray) (kk kf kh ka ks kd kw:Bool) (op who key new ty at':Int) (st:Bool) (d wt:ByteArray) (w:World) :
 Calls Tryz.prog 47 #[kindA wd kk kf kh ka ks kd kw,cmdA op who key new ty at' st d wt] w fun e w'=>e=.returned (ai (qi kk kf ka key new at'))∧Below w.heap.size w w':=by
 by_cases h1:mg key kk 999=0
 ·have e1:ai (mg key kk 999)=.nilIface:=by rw [h1];rfl
  by_cases h2:mg new kf 999=0
  ·have e2:ai (mg new kf 999)=.nilIface:=by rw [h2];rfl
   have HF:Hid (qi kk kf ka key new at'=mg at' ka 7):=by show _=_;unfold qi;rw [h1,h2];rfl
   clear h1 h2
   go_enter Tryz.func47,Tryz.ntmps47
   go_wp2_with (go_at_call 84;refine (adu _ _ _ _).mono ?_;rintro e w1 ⟨rfl,rfl⟩)
   go_ret
   exact ⟨by rw [HF.out];rfl,below2 w _ _⟩
  ·have e2:=errV_no h2
   have HF:Hid (ai (qi kk kf ka key new at')=.iface 96 (.int .i64 (mg new kf 999))):=by show _=_;unfold qi;rw [h1,if_neg (by simp),if_pos h2,e2]
   clear h1 h2
   go_enter Tryz.func47,Tryz.ntmps47
   go_wp2_with (go_at_call 84;refine (adu _ _ _ _).mono ?_;rintro e w1 ⟨rfl,rfl⟩)
   go_ret
   exact ⟨by rw [HF.out];rfl,below2 w _ _⟩
 ·have e1:=errV_no h1
  have HF:Hid (ai (qi kk kf ka key new at')=.iface 96 (.int .i64 (mg key kk 999))):=by show _=_;unfold qi;rw [if_pos h1,e1]
  clear h1
  go_enter Tryz.func47,Tryz.ntmps47
  go_wp2_with (go_at_call 84;refine (adu _ _ _ _).mono ?_;rintro e w1 ⟨rfl,rfl⟩)
  go_ret
  exact ⟨by rw [HF.out];rfl,below2 w _ _⟩
def xx (kh ks kd kw:Bool) (ty:Int) (st:Bool) (d wt:ByteArray):Bool :=
 (!kh || ky ty) && ((kh || ty == 0) && (ks || !st) && (kd || d.toList.isEmpty) && (kw || wt.toList.isEmpty))
theorem zn (wd:ByteArray) (kk kf kh ka ks kd kw:Bool) (op who key new ty at':Int) (st:Bool) (d wt:ByteArray) (w:World) :
 Calls Tryz.prog 48 #[kindA wd kk kf kh ka ks kd kw,cmdA op who key new ty at' st d wt] w fun e w'=>e=.returned (.bool (xx kh ks kd kw ty st d wt))∧Below w.heap.size w w':=by
 generalize hF:xx kh ks kd kw ty st d wt=F
 have HF:Hid (F=xx kh ks kd kw ty st d wt):=hF.symm
 clear hF
 cases kh
 ·go_enter Tryz.func48,Tryz.ntmps48
  go_wp2_with (go_at_call 85;refine (yc _ _).mono ?_;rintro e w1 ⟨rfl,rfl⟩)
  all_goals
   go_ret
   refine ⟨fq ?_,below2 w _ _⟩
   have hf:=HF.out
   clear HF
   simp_all [xx]
 ·cases hty:ky ty
  ·have HF':Hid (F=false):=by show _=_;rw [HF.out];simp [xx,hty]
   clear HF
   go_enter Tryz.func48,Tryz.ntmps48
   go_wp2_with (go_at_call 85;refine (yc _ _).mono ?_;rintro e w1 ⟨rfl,rfl⟩)
   go_ret
   exact ⟨fq HF'.out.symm,below2 w _ _⟩
  ·have HF':Hid (F=((ks || !st) && (kd || d.toList.isEmpty) && (kw || wt.toList.isEmpty))):=by show _=_;rw [HF.out];simp [xx,hty]
   clear HF
   go_enter Tryz.func48,Tryz.ntmps48
   go_wp2_with (go_at_call 85;refine (yc _ _).mono ?_;rintro e w1 ⟨rfl,rfl⟩)
   all_goals
    go_ret
    refine ⟨fq ?_,below2 w _ _⟩
    have hf:=HF'.out
    clear HF'
    simp_all
end Go.Proofs.YtpkhdihoijkamaaGreatDoor.K
