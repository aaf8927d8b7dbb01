import Derived.Test.YtfpfpnhpbnnmfadGreatDoorXaa
import Derived.Test.YtfpfpnhpbnnmfadGreatDoorXam
set_option maxHeartbeats 40000000
set_option maxRecDepth 100000
namespace Go.Proofs.YtfpfpnhpbnnmfadGreatDoor
section
open Go.RowKit
theorem rName_any (s:ByteArray)(hs:s.size≤maxLen)(w:World):
 Calls Tryz.prog 99 #[.string s] w fun e w'=>e=.returned (.bool (Img.isNmB s.toList))∧w'=w:=by
 unfold maxLen at hs;by_cases h1:s.size<1
 ·have e:Img.isNmB s.toList=false:=by rw[bV];simp;omega
  rw[e];clear e;go_enter Tryz.func99,Tryz.ntmps99;go_wp2;go_ret;exact⟨rfl,rfl⟩
 by_cases h6:6<s.size
 ·have e:Img.isNmB s.toList=false:=by rw[bV];simp;omega
  rw[e];clear e;go_enter Tryz.func99,Tryz.ntmps99;go_wp2;go_ret;exact⟨rfl,rfl⟩
 go_enter Tryz.func99,Tryz.ntmps99;go_wp2;go_loop [3] (fun i=>∃k:Nat,k≤s.size∧i=.int .i64 k∧(s.toList.take k).all ltr=true) (fun i=>s.size-(intOf i).toNat)
 case atStart=>exact⟨0,om_,rfl,rfl⟩
 case round=>
  obtain⟨k,hk,rfl,hall⟩:=hrel;have H:=ae hall;clear hall;by_cases hlt:k<s.size
  ·by_cases hc:97≤(s[k].toNat:Int)∧(s[k].toNat:Int)≤122
   ·obtain⟨c1,c2⟩:=hc;go_wp2;refine⟨⟨k+1,om_,by go_num,?_⟩,by simp[intOf];omega⟩;rw[cK hlt,ac H];simp[ltr];omega
   ·have e:Img.isNmB s.toList=false:=dR hlt (by simp[ltr];omega);have E:=ae e;clear e;go_wp2;all_goals first|(exfalso;omega)|(go_ret;exact⟨av (ac E).symm,rfl⟩)
  ·go_wp2;go_ret;refine⟨av ?_,rfl⟩;have h2:=ac H;rw[List.take_of_length_le (by rw[dI];omega)]at h2;rw[bV,h2];simp;omega
namespace Idl
theorem spot_prop (d:Int)(s:ByteArray):spot d s=if d<0∨3≤d then 1 else if Img.isNmB s.toList=false then 2 else 0:=by
 unfold spot;by_cases h:d<0∨3≤d
 ·rw[if_pos h,if_pos];cases e:isD d
  ·rfl
  ·have:=isD_iff.1 e;omega
 ·rw[if_neg h,if_neg];rw[isD_iff.2 om_];simp
theorem chk_prop (x:Stp)(nb tb:Bool)(hn:nb=Img.isNmB x.name.toList)(ht:tb=Img.isNmB x.to.toList):chk x=if x.kind<1∨6<x.kind then 7 else if x.dir<0∨3≤x.dir then 1 else if nb=false then 2 else
 if x.kind=2∨x.kind=4 then(if x.toDir<0∨3≤x.toDir then 1 else if tb=false then 2 else 0)else if(x.kind=5∨x.kind=6)∧(x.p<0∨2≤x.p)then 1 else if x.kind=5∧8<x.text.size then 3 else 0:=by
 unfold chk;rw[spot_prop,spot_prop,←hn,←ht];by_cases h1:x.kind<1∨6<x.kind
 ·rw[if_pos h1,if_pos h1]
 ·rw[if_neg h1,if_neg h1];by_cases h2:x.dir<0∨3≤x.dir
  ·rw[if_pos h2,if_pos h2,if_pos dc_]
  ·rw[if_neg h2,if_neg h2];cases nb
   ·rw[if_pos rfl,if_pos dc_,if_pos rfl]
   ·simp
theorem stepFault_any (x:Stp)(hn:x.name.size≤maxLen)(ht:x.to.size≤maxLen)(hx:x.text.size≤maxLen)(w:World):
 Calls Tryz.prog 67 #[.agg (stpA x)] w fun e w'=>e=.returned (.int .i64 (chk x))∧Below w.heap.size w w':=by
 have c1:=fun w=>rName_any x.name hn w
 have c2:=fun w=>rName_any x.to ht w
 obtain⟨nb,hnb⟩:∃nb,nb=Img.isNmB x.name.toList:=⟨_,rfl⟩;obtain⟨tb,htb⟩:∃tb,tb=Img.isNmB x.to.toList:=⟨_,rfl⟩;rw[chk_prop x nb tb hnb htb];rw[←hnb]at c1;rw[←htb]at c2;have C1:=ae c1;have C2:=ae c2;clear c1 c2 hnb htb hn ht;unfold maxLen at hx;obtain⟨K,D,TD,P,Nm,To,Tx⟩:=x;simp only at hx C1 C2⊢;cases nb<;>cases tb
 all_goals
  go_enter Tryz.func67,Tryz.ntmps67
  go_wp2_with(first
   |(go_at_call_of 99 (Value.string Nm);refine(ac C1 _).mono ?_;rintro e w' ⟨rfl,rfl⟩)
   |(go_at_call_of 99 (Value.string To);refine(ac C2 _).mono ?_;rintro e w' ⟨rfl,rfl⟩))
  all_goals
   go_ret
   refine⟨az ?_,(gX _ _).alloc (gY _) _⟩
   clear C1 C2
   try simp only[beq_iff_eq,beq_eq_false_iff_ne,ne_eq]at*
   repeat' split
   all_goals first|rfl|omega|(exfalso;simp_all;done)
end Idl
end
end Go.Proofs.YtfpfpnhpbnnmfadGreatDoor
