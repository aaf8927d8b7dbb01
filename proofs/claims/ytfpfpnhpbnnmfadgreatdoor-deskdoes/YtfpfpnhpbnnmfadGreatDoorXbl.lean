import Derived.Test.YtfpfpnhpbnnmfadGreatDoorXaa
import Derived.Test.YtfpfpnhpbnnmfadGreatDoorXaw
import Derived.Test.YtfpfpnhpbnnmfadGreatDoorXax
import Derived.Test.YtfpfpnhpbnnmfadGreatDoorXbf
import Derived.Test.YtfpfpnhpbnnmfadGreatDoorXbh
import Derived.Test.YtfpfpnhpbnnmfadGreatDoorXbg
import Derived.Test.YtfpfpnhpbnnmfadGreatDoorXbk
import Derived.Test.YtfpfpnhpbnnmfadGreatDoorXbj
import Derived.Test.YtfpfpnhpbnnmfadGreatDoorXaq
import Derived.Test.YtfpfpnhpbnnmfadGreatDoorXav
import Derived.Lib.SpaceUEq
import Derived.Lib.TrimUEq
set_option maxHeartbeats 40000000
set_option maxRecDepth 100000
set_option linter.unusedVariables false
namespace Go.Proofs.YtfpfpnhpbnnmfadGreatDoor
section
open Go.RowKit
open Idl (Stp chk stpA strs)
namespace Dsk
def many (L:List ByteArray):Bool:=decide (150<L.length)
def fine (L:List ByteArray):Bool:= !many L&&decide (torn L<0)
def doC (L:List ByteArray):Int:=if many L=true then 14 else if torn L<0 then 0 else 15
def doAt (L:List ByteArray):Int:=if many L=true then-1 else if torn L<0 then 0 else torn L
def doT (S:Lv)(L:List ByteArray):List UInt8:=if fine L=true then tells S L else[]
def doN (S:Lv)(L:List ByteArray):Lv:=if fine L=true then nexts S L else S
theorem doC_zero (L:List ByteArray):doC L=0↔fine L=true:=by
 unfold doC fine;cases many L
 ·by_cases h:torn L<0<;>simp[h]
 ·simp
theorem next_ok {S:Lv}{n:Nat}(h:S.Ok n)(ws:List ByteArray):(next S ws).Ok (n+1):=by
 rcases next_cases S ws with e|⟨x,e⟩<;>rw[e]
 ·exact Ok.more h om_
 ·exact h.any x
theorem next_neat {S:Lv}{n:Nat}(h:S.Ok n)(hn:n≤1000000)(hN:S.Neat)(ws:List ByteArray):(next S ws).Neat:=by
 rcases next_cases S ws with e|⟨x,e⟩<;>rw[e]
 ·exact hN
 ·exact hN.any h hn x
theorem nexts_ok:∀{L:List ByteArray}{S:Lv}{n:Nat},S.Ok n→(nexts S L).Ok (n+L.length)
 |[],_,_,h=>h
 |s::L,S,n,h=>by
  have:=nexts_ok (L:=L) (next_ok h (words s));rw[ig,show n+(L.length+1)=n+1+L.length by omega];exact this
theorem nexts_neat:∀{L:List ByteArray}{S:Lv}{n:Nat},S.Ok n→S.Neat→n+L.length≤1000000→(nexts S L).Neat
 |[],_,_,_,h,_=>h
 |s::L,S,n,h,hN,hn=>by
  rw[ig]at hn;exact nexts_neat (L:=L) (next_ok h (words s)) (next_neat h om_ hN (words s)) om_
theorem nexts_take {S:Lv}{L:List ByteArray}{k:Nat}{s:ByteArray}(h:L[k]? =some s):nexts S (L.take (k+1))=next (nexts S (L.take k)) (words s):=by
 rw[List.take_add_one,h,nexts_append];rfl
theorem path_of {S:Lv}{n:Nat}(h:S.Ok n)(hN:S.Neat)(L:List ByteArray)(hn:n+L.length≤1000000):Path L (fun k=>nexts S (L.take k)) n:=by
 refine⟨hn,fun k hk=>?_,fun k hk=>?_,fun k s hs w bl bf bc W hl=>?_⟩
 ·have:=nexts_ok (L:=L.take k) h;rw[iI,Nat.min_eq_left hk]at this;exact this
 ·exact nexts_neat h hN (by rw[iI];omega)
 ·show Lo w bl bf bc (nexts S (L.take (k+1))) W;rw[nexts_take hs];exact hl
theorem pathTell_of (S:Lv)(L:List ByteArray):∀k,k≤L.length→pathTell L (fun k=>nexts S (L.take k)) k=tells S (L.take k)
 |0,_=>rfl
 |k+1,hk=>by
  have hs:L[k]? =some (L[k]'hk):=iB hk;show pathTell L _ k++told (nexts S (L.take k)) (words (L.getD k ⟨#[]⟩))=_;rw[pathTell_of S L k om_,List.take_add_one,hs,tells_append,List.getD_eq_getElem?_getD,hs];show _=tells S (List.take k L)++(told (nexts S (List.take k L)) (words (L[k]'hk))++[]);rw[iM];rfl
end Dsk
section
variable {w W W':World}{B bd bl bf bc:Nat}{S:Lv}{l:List UInt8}
theorem lns_of (h:Dk w B bd bl bf bc S l W){v:Value}{L:List ByteArray}(hv:Wds w v L):Lns bd bl bf bc W v L:=by
 obtain⟨a,c,e,hc⟩:=hv;refine⟨a,c,e,fun i x hx=>?_⟩;obtain⟨g,o,e1,e2⟩:=hc i x hx;have hl:g<w.heap.size:=Lib.lt_of_cell e2;have h1:=h.d0;have h2:=h.lo.l0;have h3:=h.lo.fo.f0;have h4:=h.lo.fo.c0;exact⟨g,o,e1,⟨om_,om_,om_,om_⟩,aq h.lo.bel e2⟩
theorem do_any (h:Dk w B bd bl bf bc S [] W)(tb:aW w)(L:List ByteArray)(hL:L.length≤maxLen)(hs:∀s∈L,s.size≤50000){n:Nat}(hO:S.Ok n)(hN:S.Neat)(hn:n+150≤1000000)(v:Value)(hv:Wds w v L):
 Calls Tryz.prog 9 #[.pointer (some ⟨bd,0,none⟩),v] W fun e w'=>e=.returned (.tuple #[.string ⟨(Dsk.doT S L).toArray⟩,.agg (fltA (Dsk.doC L) (Dsk.doAt L))])∧∃bf' bc',Dk w W.heap.size bd bl bf' bc' (Dsk.doN S L) [] w'∧Dd bd bl bf bc bf' bc' W w':=by
 have hln:=lns_of h hv;by_cases hm:150<L.length
 ·have e:Dsk.many L=true:=by unfold Dsk.many;simpa using hm
  have ef:Dsk.fine L=false:=by unfold Dsk.fine;rw[e];rfl
  obtain⟨a,c,e1,_⟩:=hv;refine(do_many h L hm hL v ⟨a,c,e1⟩).mono fun e9 w' ⟨he,hb⟩=>⟨?_,bf,bc,?_,hb.size,fun j hj _ _ _ _=>hb.block j hj,.inl ⟨rfl,rfl⟩⟩
  ·rw[he];unfold Dsk.doT Dsk.doC Dsk.doAt;rw[e,ef];rfl
  ·unfold Dsk.doN;rw[ef];exact(h.call hb).rebase h.lo.bel.size hb.size
 have e:Dsk.many L=false:=by unfold Dsk.many;simpa using hm
 by_cases ht:0≤Dsk.torn L
 ·have ef:Dsk.fine L=false:=by unfold Dsk.fine;rw[e];simp;omega
  refine(do_torn h L om_ ht v hln.wds).mono fun e9 w' ⟨he,hb⟩=>⟨?_,bf,bc,?_,hb.size,fun j hj _ _ _ _=>hb.block j hj,.inl ⟨rfl,rfl⟩⟩
  ·rw[he];unfold Dsk.doT Dsk.doC Dsk.doAt;rw[e,ef];simp only[Bool.false_eq_true,if_false,if_neg (show ¬Dsk.torn L<0 by omega)]
  ·unfold Dsk.doN;rw[ef];exact(h.call hb).rebase h.lo.bel.size hb.size
 ·have ef:Dsk.fine L=true:=by unfold Dsk.fine;rw[e];simp;omega
  refine(do_fine h tb L om_ hs om_ (fun k=>Dsk.nexts S (L.take k)) n (Dsk.path_of hO hN L om_) rfl v hln).mono fun e9 w' ⟨he,bf',bc',h9,d9⟩=>⟨?_,bf',bc',?_,d9⟩
  ·rw[he,Dsk.pathTell_of S L _ (gY _),List.take_length];unfold Dsk.doT Dsk.doC Dsk.doAt;rw[e,ef];simp only[Bool.false_eq_true,if_false,if_true,if_pos (show Dsk.torn L<0 by omega)]
  ·unfold Dsk.doN;rw[ef];rw[List.take_length]at h9;exact h9
end
def SlowIs (L:List ByteArray)(e:Ending):Prop:=∃b,e=.returned (.bool b)∧(b=false→∀s∈L,s.size≤50000)
theorem slow_any (L:List ByteArray)(hL:L.length≤maxLen)(hs:∀s∈L,s.size≤140737488355328)(v:Value)(W:World)(hv:Wds W v L):
 Calls Tryz.prog 6 #[v] W fun e w'=>SlowIs L e∧w'=W:=by
 obtain⟨a,c,rfl,hc⟩:=hv;have HC:=ae hc;have HS:=ae hs;unfold maxLen at hL;clear hc hs;go_enter Tryz.func6,Tryz.ntmps6;go_wp2_with fail;go_loop [3,4] (fun s3 s4=>∃(i:Nat)(n:Int),i≤L.length∧s4=.int .i64 i∧s3=.int .i64 n∧0≤n∧n≤9000∧Hid (∀(j:Nat) x,j<i→L[j]? =some x→(x.size:Int)≤9000)) (fun _ s4=>L.length-(intOf s4).toNat)
 case atStart=>exact⟨0,0,hZ _,rfl,rfl,om_,om_,ae fun j x h=>by omega⟩
 case round=>
  obtain⟨i,n,hi,rfl,rfl,n0,n9,N1⟩:=hrel;by_cases hlt:i<L.length
  case pos=>
   have hz:(i:Int)<(L.length:Int):=om_;obtain⟨x,hx⟩:∃x,L[i]? =some x:=⟨_,iB hlt⟩;obtain⟨g,o,rfl,hcl⟩:=ac HC i x hx;have hsz:=ac HS x (List.mem_of_getElem? hx);by_cases hb:9000<n+(x.size:Int)
   case pos=>
    have q0:decide (9000<n+(x.size:Int))=true:=by simpa using hb
    have hadd: -9223372036854775808≤n+(x.size:Int)∧n+(x.size:Int)≤9223372036854775807:=om_;clear hb;go_wp2_with fail;go_ret;exact⟨⟨true,rfl,fun z=>by cases z⟩,rfl⟩
   case neg=>
    have q0:decide (9000<n+(x.size:Int))=false:=by simpa using hb
    have hadd: -9223372036854775808≤n+(x.size:Int)∧n+(x.size:Int)≤9223372036854775807:=om_;have NN:=ae (show ∀(j:Nat) y,j<i+1→L[j]? =some y→(y.size:Int)≤9000 from fun j y hj hy=>by
     by_cases e:j=i
     ·subst e;rw[hx]at hy;cases hy;omega
     ·exact ac N1 j y om_ hy)
    have hs0:0≤n+(x.size:Int)∧n+(x.size:Int)≤9000:=om_;clear hb;go_wp2_with fail;go_round
    case rel=>exact⟨i+1,n+(x.size:Int),om_,by go_num,rfl,hs0.1,hs0.2,NN⟩
    case measure=>simp[intOf];omega
  case neg=>
   have hz:¬(i:Int)<(L.length:Int):=om_;obtain rfl:i=L.length:=om_;go_wp2_with fail;go_ret;refine⟨⟨false,rfl,fun _ s hs=>?_⟩,rfl⟩;obtain⟨j,hj⟩:=List.mem_iff_getElem?.1 hs;have:=ac N1 j s (ip.1 hj).1 hj;omega
end
section
open Go.RowKit
open Idl (Stp chk stpA strs)
structure Rd (w:World)(gd gb:Nat)(S:Lv)(l:List UInt8)(W:World):Prop where
 row:W.heap[gd]? =some (.cells #[.string (mkb l),.pointer (some ⟨gb,0,none⟩)] 50)
 bed:Bl W gb S
 bel:Below w.heap.size w W
 d0:w.heap.size≤gd
 b0:w.heap.size≤gb
abbrev Rc (gd gb:Nat)(W W':World):Prop:=Idl.Chg (fun i=>i=gd∨i=gb) W W'
section
variable {w W W' W2:World}{gd gb:Nat}{S:Lv}{l:List UInt8}
theorem Rc.trans (h:Rc gd gb W W')(k:Rc gd gb W' W2):Rc gd gb W W2:=Idl.Chg.trans h k fun _ z=>.inl z
theorem Rd.lt (h:Rd w gd gb S l W):gd<W.heap.size:=(gW.1 h.row).1
theorem Rd.ne (h:Rd w gd gb S l W):gd≠gb:=by
 obtain⟨cs,ds,e,_⟩:=h.bed;exact aH h.row e dc_
theorem Rd.call (h:Rd w gd gb S l W)(hb:Below W.heap.size W W'):Rd w gd gb S l W':=
 ⟨(hb.block _ h.lt).trans h.row,h.bed.keep (hb.block _ h.bed.lt),h.bel.trans (hb.mono h.bel.size),h.d0,h.b0⟩
theorem Rd.cell0 (h:Rd w gd gb S l W):W.cell? ⟨gd,0,none⟩=some (.string (mkb l)):=by rw[Lib.cell_of_heap h.row];rfl
theorem Rd.cell1 (h:Rd w gd gb S l W):W.cell? ⟨gd,1,none⟩=some (.pointer (some ⟨gb,0,none⟩)):=by rw[Lib.cell_of_heap h.row];rfl
theorem Rd.put (h:Rd w gd gb S l W)(k:List UInt8):Rd w gd gb S k (W.setCell ⟨gd,0,none⟩ (.string (mkb k)))∧Rc gd gb W (W.setCell ⟨gd,0,none⟩ (.string (mkb k))):=by
 have c:Rc gd gb W (W.setCell ⟨gd,0,none⟩ (.string (mkb k))):=⟨rfl,rfl,rfl,by simp[World.setCell],fun j _ hn=>iP _ _ _ _ (fun e=>hn (.inl e))⟩;exact⟨⟨by rw[dT h.row];rfl,h.bed.keep (iP _ _ _ _ (fun e=>h.ne e.symm)),h.bel.trans (c.below h.bel.size (fun k hk=>by rcases hk with rfl|rfl;exact h.d0;exact h.b0)),h.d0,h.b0⟩,c⟩
theorem bS (h:Rd w gd gb S l W)(x:List UInt8)(hlen:l.length+x.length+10≤140737488355328):
 Calls Tryz.prog 34 #[.pointer (some ⟨gd,0,none⟩),.string (mkb x)] W fun e w'=>e=.returned (.tuple #[])∧Rd w gd gb S (l++(x++[10])) w'∧Rc gd gb W w':=by
 have hc:=h.cell0;have hfz:=Lib.frozen_of_heap h.row 0;obtain⟨A,hA⟩:∃A:ByteArray,A=mkb l:=⟨_,rfl⟩;obtain⟨X,hX⟩:∃X:ByteArray,X=mkb x:=⟨_,rfl⟩;have e2:mkb (l++(x++[10]))=A++(X++⟨#[10]⟩):=by rw[hA,hX,show(⟨#[10]⟩:ByteArray)=mkb [10]from rfl,bR,bR]
 have P:=ae (h.put (l++(x++[10])));rw[e2]at P;have s1:X.size+1≤9223372036854775807:=by rw[hX,aC];omega
 have s2:A.size+(X++⟨#[10]⟩).size≤9223372036854775807:=by rw[hA,hX,show(⟨#[10]⟩:ByteArray)=mkb [10]from rfl,bR,aC,aC,gZ,iT];omega
 rw[←hA]at hc;show Calls Tryz.prog 34 #[.pointer (some ⟨gd,0,none⟩),.string (mkb x)] W _;rw[←hX];clear e2 hlen h hA hX;go_enter Tryz.func34,Tryz.ntmps34;go_wp2_with fail;go_end0;exact⟨rfl,ac P⟩
theorem rNew_any (w:World)(hb:Below w.heap.size w W):Calls Tryz.prog 8 #[] W fun e w'=>∃gd gb,e=.returned (.pointer (some ⟨gd,0,none⟩))∧W.heap.size≤gd∧W.heap.size≤gb∧Rd w gd gb Lv.new [] w'∧Below W.heap.size W w':=by
 have hw:=hb.size;have B:=ae hb;go_enter Tryz.func8,Tryz.ntmps8;go_wp2_with fail;refine(Sft.newBed_row W).mono ?_;rintro e w4 ⟨gb,rfl,hgb,rgb,b4⟩;have R4:=ae (show Bl w4 gb Lv.new from⟨_,_,rgb,dW,dW⟩);have B4:=ae b4;clear rgb b4;go_wp2_with fail;go_ret;have ba:Below w4.heap.size w4 (w4.alloc (.cells #[.string ⟨#[]⟩,.pointer (some ⟨gb,0,none⟩)] 50)):=(gX _ w4).alloc (gY _) _;have b5:=(ac B4).trans (ba.mono (ac B4).size);exact⟨w4.heap.size,gb,rfl,(ac B4).size,hgb,⟨iV _ _,(ac R4).keep (ba.block _ (ac R4).lt),(ac B).trans (b5.mono hw),h_ hw (ac B4).size,h_ hw hgb⟩,b5⟩
end
theorem bp (s:ByteArray)(hs:s.size≤100000)(W:World)(tb:aW W):
 Calls Tryz.prog 36 #[.string s] W fun e w'=>e=.returned (.int .i64 (Dsk.num s))∧Below W.heap.size W w':=by
 by_cases hk:∃v,Lib.atoiAll s.data.toList=.ok v
 case neg=>
  have EN:=ae (show Dsk.num s= -1 by
   unfold Dsk.num;split
   ·rename_i v h;exact absurd ⟨v,h⟩ hk
   ·rfl)
  have D:=ae (atoi_no s hs (fun v h=>hk ⟨v,h⟩) W tb.ers);clear hk tb;go_enter Tryz.func36,Tryz.ntmps36;go_wp2_with fail;refine(ac D).mono ?_;rintro e w1 ⟨⟨n,t,a,rfl⟩,b1⟩;clear D;go_wp2_with fail;go_ret;exact⟨by rw[ac EN];rfl,b1⟩
 case pos=>
  obtain⟨v,hv⟩:=hk;have D:=ae (atoi_ok s hs v hv W);have vb:=Lib.atoiAll_bounds hv;by_cases h0:v<0
  case pos=>
   have d0:decide (v<0)=true:=by simpa using h0
   have EN:=ae (show Dsk.num s= -1 by unfold Dsk.num;rw[hv];exact if_pos h0);clear hv tb h0;go_enter Tryz.func36,Tryz.ntmps36;go_wp2_with fail;refine(ac D).mono ?_;rintro e w1 ⟨rfl,b1⟩;clear D;go_wp2_with fail;go_ret;exact⟨by rw[ac EN];rfl,b1⟩
  case neg=>
   have d0:decide (v<0)=false:=by simpa using h0
   have I:=ae (fun V (hb:Below W.heap.size W V)=>b_ hb tb.tab (z:=v) ⟨vb.1,vb.2⟩);obtain⟨z,hz⟩:∃z:List UInt8,z=Lib.itoa v:=⟨_,rfl⟩;rw[←hz]at I;by_cases he:z=s.data.toList
   case pos=>
    have EN:=ae (show Dsk.num s=v by unfold Dsk.num;rw[hv];simp only;rw[if_neg h0,if_pos (by rw[←hz];exact he)]);have ES:(⟨z.toArray⟩:ByteArray)=s:=by rw[he]
    rw[ES]at I;clear hv tb h0 hz he ES z;go_enter Tryz.func36,Tryz.ntmps36;go_wp2_with fail;refine(ac D).mono ?_;rintro e w1 ⟨rfl,b1⟩;clear D;go_wp2_with fail;refine(ac I _ b1).mono ?_;rintro e w2 ⟨rfl,b2⟩;have b3:=b2;clear b2 I;go_wp2_with fail;go_ret;exact⟨by rw[ac EN];rfl,b3⟩
   case neg=>
    have EN:=ae (show Dsk.num s= -1 by unfold Dsk.num;rw[hv];simp only;rw[if_neg h0,if_neg (by rw[←hz];exact he)]);have ES:(z==s.toList)=false:=by
     rw[beq_eq_false_iff_ne];intro z2;exact he (by rw[z2,ByteArray.toList_eq])
    clear hv tb h0 hz he;go_enter Tryz.func36,Tryz.ntmps36;go_wp2_with fail;refine(ac D).mono ?_;rintro e w1 ⟨rfl,b1⟩;clear D;go_wp2_with fail;refine(ac I _ b1).mono ?_;rintro e w2 ⟨rfl,b2⟩;have b3:=b2;clear b2 I;go_wp2_with fail;go_ret;exact⟨by rw[ac EN];rfl,b3⟩
end
section
open Go.RowKit
open Idl (Stp chk stpA strs)
theorem rF_any (c a:Int)(W:World):Calls Tryz.prog 22 #[.int .i64 c,.int .i64 a] W fun e w'=>e=.returned (.agg (fltA c a))∧Below W.heap.size W w':=by
 have R0:=ae (show(W.alloc (.cells #[.int .i64 0,.int .i64 0] 31)).heap[W.heap.size]? =some (.cells #[.int .i64 0,.int .i64 0] 31)from iV _ _);have B0:=ae (show Below W.heap.size W (W.alloc (.cells #[.int .i64 0,.int .i64 0] 31))from(gX _ W).alloc (gY _) _);unfold fltA;go_enter Tryz.func22,Tryz.ntmps22;go_wp2_with(have hx:=ac R0;refine wpList_store_row rfl 31 _ _ rfl W.heap.size #[.int .i64 c,.int .i64 a] rfl rfl 31 _ hx aT rfl (all2 c a) ?_;clear hx);refine bodyPost_ret (v:=.agg #[.int .i64 c,.int .i64 a]) ?_ rfl ⟨rfl,ah (ac B0) (gY _) _⟩;exact results_cell_row (P:=Tryz.prog) Tryz.results22 _ _ W.heap.size 31 _ (0,0) _ rfl (setRow_heap _ _ _ _ _ _ (ac R0)) bn rfl aT
namespace Dsk
theorem nl_true {s:ByteArray}{k:Nat}(hk:k<s.size)(h:s[k]=10):hasNl s=true:=by
 unfold hasNl;have h2:s.data.toList[k]? =some 10:=by
  rw[←h];exact ip.2 ⟨hk,rfl⟩
 rw[decide_eq_true_iff];by_cases z:Lib.indexByte s.data.toList 10= -1
 ·exact absurd h2 (Lib.indexByte_none z k)
 ·have:=Lib.indexByte_ge s.data.toList 10;omega
theorem nl_false {s:ByteArray}(h:∀(k:Nat)(hk:k<s.size),s[k]≠10):hasNl s=false:=by
 unfold hasNl;rw[decide_eq_false_iff_not];intro z;have h2:=(Lib.indexByte_some (o:=(Lib.indexByte s.data.toList 10).toNat) (l:=s.data.toList) (c:=10) om_).1;obtain⟨h3,h4⟩:=ip.1 h2;exact h _ h3 h4
end Dsk
theorem gv (L:List ByteArray)(hL:L.length≤maxLen)(hs:∀s∈L,s.size≤50000)(v:Value)(W:World)(hv:Wds W v L):
 Calls Tryz.prog 10 #[v] W fun e w'=>e=.returned (.agg (fltA (Dsk.doC L) (Dsk.doAt L)))∧Below W.heap.size W w':=by
 have r0:(W.alloc (.cells #[.int .i64 0,.int .i64 0] 31)).heap[W.heap.size]? =some (.cells #[.int .i64 0,.int .i64 0] 31):=iV _ _;have b0:Below W.heap.size W (W.alloc (.cells #[.int .i64 0,.int .i64 0] 31)):=(gX _ W).alloc (gY _) _;have hv0:=hv.below b0;obtain⟨a,c,rfl,hc⟩:=hv0;clear hv;obtain⟨W0,hW⟩:∃W0,W0=W.alloc (.cells #[.int .i64 0,.int .i64 0] 31):=⟨_,rfl⟩;rw[←hW]at r0 b0 hc;have ST:=ae (fun(x y:Int)(w1:World)(b1:Below W0.heap.size W0 w1)=>(show w1.heap[W.heap.size]? =some (.cells #[.int .i64 0,.int .i64 0] 31)from(b1.block _ (gW.1 r0).1).trans r0));have BB:=ae b0;unfold maxLen at hL;by_cases hm:150<L.length
 case pos=>
  have hz:decide ((150:Int)<(L.length:Int))=true:=by simp;omega
  have E:=ae (show fltA (Dsk.doC L) (Dsk.doAt L)= #[.int .i64 14,.int .i64 (-1)]by
   have e:Dsk.many L=true:=by unfold Dsk.many;simpa using hm
   unfold Dsk.doC Dsk.doAt;rw[e];rfl)
  clear hc hs hm r0 b0;have HW:=ae hW;clear hW;go_enter Tryz.func10,Tryz.ntmps10;go_wp2_with fail;rw[←ac HW];refine(rF_any 14 (-1) W0).mono ?_;rintro e w1 ⟨rfl,b1⟩;have R0:=ae (ac ST 14 (-1) w1 b1);have B1:=ae ((ac BB).trans (b1.mono (ac BB).size));clear b1 ST BB;unfold fltA;go_wp2_with(have hx:=ac R0;refine wpList_store_row rfl 31 _ _ rfl W.heap.size #[.int .i64 14,.int .i64 (-1)] rfl rfl 31 _ hx aT rfl (all2 14 (-1)) ?_;clear hx);refine bodyPost_ret (v:=.agg #[.int .i64 14,.int .i64 (-1)]) ?_ rfl ⟨by rw[ac E],ah (ac B1) (gY _) _⟩;exact results_cell_row (P:=Tryz.prog) Tryz.results10 _ _ W.heap.size 31 _ (0,0) _ rfl (setRow_heap _ _ _ _ _ _ (ac R0)) bn rfl aT
 case neg=>
  have hz:decide ((150:Int)<(L.length:Int))=false:=by simp;omega
  have HC:=ae hc;have HS:=ae hs;have HW:=ae hW;have R0:=ae r0;have hm':Dsk.many L=false:=by unfold Dsk.many;simpa using hm
  have EF:=ae (show(∀j,j<L.length→Dsk.hasNl (L.getD j ⟨#[]⟩)=false)→fltA (Dsk.doC L) (Dsk.doAt L)= #[.int .i64 0,.int .i64 0]from fun h=>by
   have:Dsk.torn L<0:=by unfold Dsk.torn;rw[Img.firstI_none h];omega
   unfold Dsk.doC Dsk.doAt;rw[hm'];simp only[Bool.false_eq_true,if_false,if_pos this];rfl)
  have EN:=ae (show ∀i,i<L.length→(∀j,j<i→Dsk.hasNl (L.getD j ⟨#[]⟩)=false)→Dsk.hasNl (L.getD i ⟨#[]⟩)=true→fltA (Dsk.doC L) (Dsk.doAt L)= #[.int .i64 15,.int .i64 (i:Int)]from fun i h1 h2 h3=>by
   have:Dsk.torn L=(i:Int):=by unfold Dsk.torn;rw[Img.firstI_at h3 h2 h1]
   unfold Dsk.doC Dsk.doAt;rw[hm'];simp only[Bool.false_eq_true,if_false,this,if_neg (show ¬(i:Int)<0 by omega)];rfl)
  clear hc hs hm r0 b0 hm' hW;generalize fltA (Dsk.doC L) (Dsk.doAt L)=ans at*;go_enter Tryz.func10,Tryz.ntmps10;go_wp2_with fail;rw[←ac HW];go_loop [3] (fun s=>∃i:Nat,i≤L.length∧s=.int .i64 i∧Hid (∀j,j<i→Dsk.hasNl (L.getD j ⟨#[]⟩)=false)) (fun s=>L.length-(intOf s).toNat)
  case atStart=>exact⟨0,hZ _,rfl,ae fun j h=>by omega⟩
  case round=>
   obtain⟨i,hi,rfl,N1⟩:=hrel;by_cases hlt:i<L.length
   case neg=>
    have hy:¬(i:Int)<(L.length:Int):=om_;obtain rfl:i=L.length:=om_;have E:=ae (ac EF (ac N1));clear EF EN N1;go_wp2_with(have hx:=ac R0;refine wpList_store_row rfl 31 _ _ rfl W.heap.size #[.int .i64 0,.int .i64 0] rfl rfl 31 _ hx aT rfl (all2 0 0) ?_;clear hx);refine bodyPost_ret (v:=.agg #[.int .i64 0,.int .i64 0]) ?_ rfl ⟨by rw[ac E],ah (ac BB) (gY _) _⟩;exact results_cell_row (P:=Tryz.prog) Tryz.results10 _ _ W.heap.size 31 _ (0,0) _ rfl (setRow_heap _ _ _ _ _ _ (ac R0)) bn rfl aT
   case pos=>
    have hy:(i:Int)<(L.length:Int):=om_;obtain⟨x,hx⟩:∃x,L[i]? =some x:=⟨_,iB hlt⟩;obtain⟨g,o,rfl,hcl⟩:=ac HC i x hx;have hsz:=ac HS x (List.mem_of_getElem? hx);have GX:=ae (show L.getD i ⟨#[]⟩=x by rw[List.getD_eq_getElem?_getD,hx];rfl);clear hx;go_wp2_with fail;go_loop [4] (fun s=>∃k:Nat,k≤x.size∧s=.int .i64 k∧Hid (∀(j:Nat)(hj:j<x.size),j<k→x[j]≠10)) (fun s=>x.size-(intOf s).toNat)
    case atStart=>exact⟨0,hZ _,rfl,ae fun j _ h=>by omega⟩
    case round=>
     obtain⟨k,hk,rfl,K1⟩:=hrel;by_cases hkl:k<x.size
     case neg=>
      have hq:¬(k:Int)<(x.size:Int):=om_;have N2:=ae (show ∀j,j<i+1→Dsk.hasNl (L.getD j ⟨#[]⟩)=false from fun j hj=>by
       by_cases e:j=i
       ·subst e;rw[ac GX];exact Dsk.nl_false fun k2 hk2=>ac K1 k2 hk2 om_
       ·exact ac N1 j om_)
      clear N1 K1;go_wp2_with fail;go_round
      case rel=>exact⟨i+1,om_,by go_num,N2⟩
      case measure=>simp[intOf];omega
     case pos=>
      have hq:(k:Int)<(x.size:Int):=om_;by_cases hb:x[k]=10
      case pos=>
       have E:=ae (ac EN i hlt (ac N1) (by rw[ac GX];exact Dsk.nl_true hkl hb));have hb2:(x[k].toNat:Int)=10:=by rw[hb];rfl
       clear EN EF N1 K1 hb;go_wp2_with fail;refine(rF_any 15 (i:Int) W0).mono ?_;rintro e w1 ⟨rfl,b1⟩;have R1:=ae (ac ST 15 (i:Int) w1 b1);have B1:=ae ((ac BB).trans (b1.mono (ac BB).size));clear b1 ST BB hcl;unfold fltA;go_wp2_with(have hx:=ac R1;refine wpList_store_row rfl 31 _ _ rfl W.heap.size #[.int .i64 15,.int .i64 (i:Int)] rfl rfl 31 _ hx aT rfl (all2 15 (i:Int)) ?_;clear hx);refine bodyPost_ret (v:=.agg #[.int .i64 15,.int .i64 (i:Int)]) ?_ rfl ⟨by rw[ac E],ah (ac B1) (gY _) _⟩;exact results_cell_row (P:=Tryz.prog) Tryz.results10 _ _ W.heap.size 31 _ (0,0) _ rfl (setRow_heap _ _ _ _ _ _ (ac R1)) bn rfl aT
      case neg=>
       have hb2:¬(x[k].toNat:Int)=10:=fun z=>hb (by apply UInt8.toNat_inj.1;show x[k].toNat=10;omega)
       have K2:=ae (show ∀(j:Nat)(hj:j<x.size),j<k+1→x[j]≠10 from fun j hj h=>by
        by_cases e:j=k
        ·subst e;exact hb
        ·exact ac K1 j hj om_)
       clear K1 hb EN EF;go_wp2_with fail;go_round
       case rel=>exact⟨k+1,om_,by go_num,K2⟩
       case measure=>simp[intOf];omega
end
section
open Go.RowKit
open Idl (Stp chk stpA)
theorem Op9.ld_bed {o:Oper}{ρ:Operand→Value}(x:Operand)(ho:o.op=.load 47 x){g o0:Nat}(hx:ρ x=.pointer (some ⟨g,o0,none⟩)){p:Option Addr}(w:World)(h:w.cell? ⟨g,o0,none⟩=some (.pointer p)):(execOp ρ o).run Tryz.prog w=.ok (.value (.pointer p)) w:=by
 unfold execOp;rw[ho];go_simp
theorem Op9.ld_desk {o:Oper}{ρ:Operand→Value}(x:Operand)(ho:o.op=.load 27 x){g o0:Nat}(hx:ρ x=.pointer (some ⟨g,o0,none⟩)){p:Option Addr}(w:World)(h:w.cell? ⟨g,o0,none⟩=some (.pointer p)):(execOp ρ o).run Tryz.prog w=.ok (.value (.pointer p)) w:=by
 unfold execOp;rw[ho];go_simp
def Dsk.isIt (x:ByteArray)(n:Nat)(u:ByteArray)(k:Int):Bool:=x.toList==u.toList&&((n:Int)==1+k)
section
variable {w W W' W2:World}{gd gb:Nat}{S:Lv}{l:List UInt8}
theorem bE (x u:ByteArray)(k:Int)(hk:0≤k∧k≤100)(g4 A n c:Nat)(hn:0<n)(hn2:n≤1000000)(W:World)(h4:W.cell? ⟨g4,0,none⟩=some (.slice (some ⟨A,0,none⟩) n c))(hA:W.cell? ⟨A,0,none⟩=some (.string x)):
 Calls Tryz.prog 32 #[.string u,.int .i64 k,.pointer (some ⟨g4,0,none⟩)] W fun e w'=>e=.returned (.bool (Dsk.isIt x n u k))∧w'=W:=by
 have hz:(0:Int)<(n:Int):=om_;have hr: -9223372036854775808≤1+k∧1+k≤9223372036854775807:=om_;unfold Dsk.isIt;by_cases h:(x.toList==u.toList)=true
 case neg=>
  have h':(x.toList==u.toList)=false:=by simpa using h
  rw[h'];clear h;go_enter Tryz.func32,Tryz.ntmps32;go_wp2_with fail;go_ret;exact⟨rfl,rfl⟩
 case pos=>
  rw[h,Bool.true_and];generalize hq:((n:Int)==1+k)=q;go_enter Tryz.func32,Tryz.ntmps32;go_wp2_with fail;go_ret;exact⟨by first|rfl|(rw[←hq];first|rfl|go_simp),rfl⟩
theorem rYes_any (h:Rd w gd gb S l W)(b:Bool)(hlen:l.length+100≤140737488355328)(g2:Nat)(h2:W.cell? ⟨g2,0,none⟩=some (.pointer (some ⟨gd,0,none⟩))):
 Calls Tryz.prog 33 #[.bool b,.pointer (some ⟨g2,0,none⟩)] W fun e w'=>e=.returned (.tuple #[])∧Rd w gd gb S (l++Txt.line [Dsk.yes b]) w'∧Rc gd gb W w':=by
 have O:=ae (fun x hx=>bS h x hx);cases b
 case false=>
  have O1:=ae (ac O [102,97,108,115,101] (by show _+5+10≤_;omega));clear O h;go_enter Tryz.func33,Tryz.ntmps33;go_wp2_with fail;refine(ac O1).mono ?_;rintro e w3 ⟨rfl,h3⟩;have R:=ae h3;clear h3 O1;go_wp2_with fail;go_end0;exact⟨rfl,ac R⟩
 case true=>
  have O1:=ae (ac O [116,114,117,101] (by show _+4+10≤_;omega));clear O h;go_enter Tryz.func33,Tryz.ntmps33;go_wp2_with fail;refine(ac O1).mono ?_;rintro e w3 ⟨rfl,h3⟩;have R:=ae h3;clear h3 O1;go_wp2_with fail;go_end0;exact⟨rfl,ac R⟩
theorem Rd.step (h:Rd w gd gb S l W){T:Lv}(hl:Bl W' gb T)(hc:Idl.Chg (fun i=>i=gb) W W'):Rd w gd gb T l W'∧Rc gd gb W W':=by
 have c:Rc gd gb W W':=⟨hc.os,hc.tape,hc.output,hc.size,fun j hj hn=>hc.block j hj (fun e=>hn (.inr e))⟩;exact⟨⟨(hc.block _ h.lt h.ne).trans h.row,hl,h.bel.trans (c.below h.bel.size (fun k hk=>by rcases hk with rfl|rfl;exact h.d0;exact h.b0)),h.d0,h.b0⟩,c⟩
theorem no_line (z:Int):mkb ([110,111,32]++Lib.itoa z)=mkb [110,111,32]++⟨(Lib.itoa z).toArray⟩:=(bR _ _).symm
theorem line_no (z:Int):([110,111,32]++Lib.itoa z)++[10]=Txt.line [Dsk.wNo,Lib.itoa z]:=by
 simp[Txt.line,Txt.tailW,Dsk.wNo]
theorem bN (h:Rd w gd gb S l W){n:Nat}(hO:S.Ok n)(hn:n≤1000000)(x:Stp)(h1:x.name.size≤maxLen)(h2:x.to.size≤maxLen)(h3:x.text.size≤maxLen)(tb:aW w)(hlen:l.length+100≤140737488355328):
 Calls Tryz.prog 35 #[.pointer (some ⟨gd,0,none⟩),.agg (stpA x)] W fun e w'=>e=.returned (.tuple #[])∧Rd w gd gb (S.step x) (l++Dsk.ansStep S x) w'∧Rc gd gb W w':=by
 obtain⟨X,hX⟩:∃X,X=(W.alloc (.cells (stpA x) 84)).drew:=⟨_,rfl⟩;have hB:Below W.heap.size W X:=by rw[hX];exact((gX _ W).alloc (gY _) _).drew
 have H1:=ae (h.call hB);have BB:=ae (show Rc gd gb W X from Idl.Chg.of_below hB);have c1:=(h.call hB).cell1;have r1:X.heap[W.heap.size]? =some (.cells (stpA x) 84):=by rw[hX];exact iV _ _
 have CF:=ae (bStep_any (ac H1).bed hO hn x h1 h2 h3);have CR:=eV S x;have CI:I64 (S.code x):=⟨om_,om_⟩;have IL:(Lib.itoa (S.code x)).length≤21:=au CI;have ON:=ae (fun V (hv:Rd w gd gb (S.step x) l V)=>bS hv ([110,111,32]++Lib.itoa (S.code x)) (by rw[gZ];show _+(3+_)+10≤_;omega));have NM:=ae (fun V (hv:Rd w gd gb (S.step x) l V)=>b_ (w:=V) (V:=V) (gX _ V) (tb.at hv.bel).tab CI);have SZ:(mkb [110,111,32]).size+(⟨(Lib.itoa (S.code x)).toArray⟩:ByteArray).size≤9223372036854775807:=by rw[aC,aC];show 3+_≤_;omega
 have OW:=ae (fun V (hv:Rd w gd gb (S.step x) l V)=>bS hv Dsk.wOk (by show _+2+10≤_;omega));have E1:=ae (show S.code x≠0→([110,111,32]++Lib.itoa (S.code x))++[10]=Dsk.ansStep S x from fun z=>(line_no _).trans (if_pos z).symm);have E0:=ae (show S.code x=0→Dsk.wOk++[10]=Dsk.ansStep S x from fun z=>(if_neg (fun y=>y z)).symm);have NL:=ae (no_line (S.code x));generalize Dsk.ansStep S x=ans at*;generalize S.code x=cd at*;generalize S.step x=T at*;clear h hB hO hn h1 h2 h3 tb hlen CR CI IL;unfold Dsk.wOk at OW E0;have HX:=ae hX;go_enter Tryz.func35,Tryz.ntmps35;go_upto_region 1 with fail
 refine iU (S:=fun V=>V.cell? ⟨gd,1,none⟩=some (.pointer (some ⟨gb,0,none⟩))∧V.heap[W.heap.size]? =some (.cells (stpA x) 84)) kr_ (by rw[←ac HX];exact⟨c1,r1⟩) (fun hS=>?_);refine tkQ 0 gd 0 rfl hS ?_;refine tkQ 1 gd 0 rfl hS ?_;refine tkQ 2 gd 1 rfl hS ?_;refine tkH 3 (.pointer (some ⟨gb,0,none⟩)) rfl (fun W h=>Op9.ld_bed _ rfl kr_ W h.1) hS ?_;refine tkH 4 (.agg (stpA x)) rfl (fun W h=>aD 84 (.tmp 3) kr_ _ kr_ W 84 (stpA x) (0,0) _ h.2 aU rfl aJ) hS ?_;refine tkO 5 rfl (fun K hK=>?_);go_simp;rw[←ac HX];refine(ac CF).mono ?_;rintro e w2 ⟨rfl,hl,hc⟩;have H2:=ae ((ac H1).step hl hc).1;have D2:=ae (Rc.trans (ac BB) ((ac H1).step hl hc).2);have S2:w2.cell? ⟨gd,1,none⟩=some (.pointer (some ⟨gb,0,none⟩))∧w2.heap[W.heap.size]? =some (.cells (stpA x) 84):=by
  obtain⟨cs,ds,e,_⟩:=(ac H1).bed;exact⟨(ac H2).cell1,(hc.block _ (gW.1 r1).1 (aH r1 e dc_)).trans r1⟩
 clear hl hc CF;go_wp2_with fail;refine hK.out _ _ S2 (fun hS2=>?_);clear hK K;try simp only[Zsm]
 refine tkP 6 (.int .i64 cd) rfl hS2 ?_;refine tkD ?_;clear hS hS2 S2 c1 r1 hX HX;by_cases hz:cd=0
 case pos=>
  subst hz;have O:=ae (ac OW w2 (ac H2));rw[ac E0 rfl]at O;clear OW ON E0 E1 NL SZ NM;go_wp2_with fail;refine(ac O).mono ?_;rintro e w3 ⟨rfl,h3,f3⟩;have R:=ae (And.intro h3 (Rc.trans (ac D2) f3));clear h3 f3 O;go_wp2_with fail;go_end0;exact⟨rfl,ac R⟩
 case neg=>
  have q0:(cd !=0)=true:=by simpa using hz
  have I:=ae (ac NM w2 (ac H2));obtain⟨z,hzz⟩:∃z:ByteArray,z=⟨(Lib.itoa cd).toArray⟩:=⟨_,rfl⟩;rw[←hzz]at I SZ NL;have O:=ae (fun V (hv:Rd w gd gb T l V)=>ac ON V hv);rw[ac E1 hz,ac NL]at O;clear OW ON E0 E1 hz NM NL hzz;have SZ2:3+z.size≤9223372036854775807:=SZ;go_wp2_with fail;refine(ac I).mono ?_;rintro e w3 ⟨rfl,b3⟩;have H3:=ae ((ac H2).call b3);have D3:=ae (Rc.trans (ac D2) (show Rc gd gb w2 w3 from Idl.Chg.of_below b3));clear b3 I H2 D2;go_wp2_with fail;refine(ac O w3 (ac H3)).mono ?_;rintro e w4 ⟨rfl,h4,f4⟩;have R:=ae (And.intro h4 (Rc.trans (ac D3) f4));clear h4 f4 O;go_wp2_with fail;go_end0;exact⟨rfl,ac R⟩
end
end
section
namespace Dsk
def bAt (s:ByteArray)(i:Nat):Nat:=if i<s.size then(s.data.toList.getD i 0).toNat else 32
def bsp (s:ByteArray):Nat→List (Nat×Nat)×Option Nat
 |0=>([],none)
 |i+1=>if bAt s i=32 then(match(bsp s i).2 with|some a=>((bsp s i).1++[(a,i)],none)|none=>((bsp s i).1,none))else((bsp s i).1,some ((bsp s i).2.getD i))
theorem bsp_no {s:ByteArray}{i:Nat}(h:bAt s i≠32):bsp s (i+1)=((bsp s i).1,some ((bsp s i).2.getD i)):=by
 show(if bAt s i=32 then _ else _)=_;rw[if_neg h]
theorem bsp_end {s:ByteArray}{i a:Nat}(h:bAt s i=32)(e:(bsp s i).2=some a):bsp s (i+1)=((bsp s i).1++[(a,i)],none):=by
 show(if bAt s i=32 then _ else _)=_;rw[if_pos h,e]
theorem bsp_blank {s:ByteArray}{i:Nat}(h:bAt s i=32)(e:(bsp s i).2=none):bsp s (i+1)=((bsp s i).1,none):=by
 show(if bAt s i=32 then _ else _)=_;rw[if_pos h,e]
theorem bsp_skip {s:ByteArray}{pos:Nat}:∀(k:Nat),(∀j,j<k+1→bAt s (pos+j)≠32)→bsp s (pos+(k+1))=((bsp s pos).1,some ((bsp s pos).2.getD pos))
 |0,h=>bsp_no (h 0 om_)
 |k+1,h=>by
  have ih:=bsp_skip k (fun j hj=>h j om_);rw[show pos+(k+1+1)=(pos+(k+1))+1 by omega,bsp_no (h (k+1) om_),ih];rfl
theorem bsp_lt {s:ByteArray}:∀{i a:Nat},(bsp s i).2=some a→a<i
 |0,a,h=>by cases h
 |i+1,a,h=>by
  by_cases c:bAt s i=32
  ·cases e:(bsp s i).2 with
   |none=>rw[bsp_blank c e]at h;cases h
   |some b=>rw[bsp_end c e]at h;cases h
  ·rw[bsp_no c]at h;cases e:(bsp s i).2 with
   |none=>rw[e]at h;cases h;simp
   |some b=>
    rw[e]at h;cases h
    have:=bsp_lt e;simp only[Option.getD_some];omega
theorem rune_bytes (s:ByteArray)(pos:Nat)(h:pos<s.size):pos+(Utf8.decode s pos).2≤s.size∧1≤(Utf8.decode s pos).2∧
 (if(Utf8.decode s pos).1=32 then bAt s pos=32∧(Utf8.decode s pos).2=1 else ∀j,j<(Utf8.decode s pos).2→bAt s (pos+j)≠32):=by
 have hl:s.data.toList.length=s.size:=rfl;rw[Lib.decode_N];have h1:=Lib.decodeN_ge1 (s.data.toList.length-pos) (s.data.toList.getD pos 0).toNat (s.data.toList.getD (pos+1) 0).toNat (s.data.toList.getD (pos+2) 0).toNat (s.data.toList.getD (pos+3) 0).toNat;have hle:=Lib.decodeN_le_n' (s.data.toList.length-pos) (s.data.toList.getD pos 0).toNat (s.data.toList.getD (pos+1) 0).toNat (s.data.toList.getD (pos+2) 0).toNat (s.data.toList.getD (pos+3) 0).toNat om_;have hc:=Lib.decodeN_conts (s.data.toList.length-pos) (s.data.toList.getD pos 0).toNat (s.data.toList.getD (pos+1) 0).toNat (s.data.toList.getD (pos+2) 0).toNat (s.data.toList.getD (pos+3) 0).toNat;have hs:=Lib.decodeN_cases (s.data.toList.length-pos) (s.data.toList.getD pos 0).toNat (s.data.toList.getD (pos+1) 0).toNat (s.data.toList.getD (pos+2) 0).toNat (s.data.toList.getD (pos+3) 0).toNat;have ha:(s.data.toList.getD pos 0).toNat<128→Lib.decodeN (s.data.toList.length-pos) (s.data.toList.getD pos 0).toNat (s.data.toList.getD (pos+1) 0).toNat (s.data.toList.getD (pos+2) 0).toNat (s.data.toList.getD (pos+3) 0).toNat=((s.data.toList.getD pos 0).toNat,1):=Lib.decodeN_ascii _ _ _ _ _;generalize Lib.decodeN (s.data.toList.length-pos) (s.data.toList.getD pos 0).toNat (s.data.toList.getD (pos+1) 0).toNat (s.data.toList.getD (pos+2) 0).toNat (s.data.toList.getD (pos+3) 0).toNat=d at*;refine⟨om_,h1,?_⟩;have b0:bAt s pos=(s.data.toList.getD pos 0).toNat:=if_pos h;split
 ·rename_i e
  have hb:(s.data.toList.getD pos 0).toNat<128:=by
   rcases hs with⟨c,_⟩|⟨_,_,_,c,z⟩|⟨_,_,_,_,c,z⟩|⟨c,_⟩|z
   ·exact c
   ·rw[z]at e;simp only at e;omega
   ·rw[z]at e;simp only at e;omega
   ·omega
   ·rw[z]at e;simp only at e;omega
  have z:=ha hb;rw[z]at e⊢;exact⟨b0.trans e,rfl⟩
 ·rename_i e
  intro j hj;have hj2:pos+j<s.size:=om_;have hb:bAt s (pos+j)=(s.data.toList.getD (pos+j) 0).toNat:=if_pos hj2;rw[hb];have h4:=hc.2.2.2;match j,hj with
  |0,_=>
   intro z;rw[Nat.add_zero]at z;have:=ha om_;rw[this]at e;exact e z
  |1,hj=>have:=hc.1 om_;omega
  |2,hj=>have:=hc.2.1 om_;omega
  |3,hj=>have:=hc.2.2.1 om_;omega
  |j+4,hj=>omega
theorem spans_b (s:ByteArray):∀(f pos:Nat),pos≤s.size→s.size≤pos+f→Lib.spansFromP (fun r=>r==32) s f pos (bsp s pos).2 (bsp s pos).1=bsp s s.size
 |0,pos,h1,h2=>by
  have e:pos=s.size:=om_;subst e;rfl
 |f+1,pos,h1,h2=>by
  unfold Lib.spansFromP;by_cases h:pos<s.size
  ·rw[if_pos h];obtain⟨r1,r2,r3⟩:=rune_bytes s pos h;by_cases e:(Utf8.decode s pos).1=32
   ·rw[if_pos e]at r3;rw[if_pos (by simpa using e),r3.2];cases st:(bsp s pos).2 with
    |some a=>
     have:=spans_b s f (pos+1) om_ om_;rw[bsp_end r3.1 st]at this;exact this
    |none=>
     have:=spans_b s f (pos+1) om_ om_;rw[bsp_blank r3.1 st]at this;exact this
   ·rw[if_neg e]at r3;rw[if_neg (by simpa using e)];have hk:=bsp_skip (s:=s) (pos:=pos) ((Utf8.decode s pos).2-1) (fun j hj=>r3 j om_);rw[show(Utf8.decode s pos).2-1+1=(Utf8.decode s pos).2 by omega]at hk;have:=spans_b s f (pos+(Utf8.decode s pos).2) om_ om_;rw[hk]at this;cases st:(bsp s pos).2 with
    |some a=>rw[st]at this;exact this
    |none=>rw[st]at this;exact this
  ·rw[if_neg h];have e:pos=s.size:=om_;subst e;rfl
def wOut (s:ByteArray)(i:Nat):List ByteArray:=(bsp s i).1.map fun x=>s.extract x.1 x.2
def wCur (s:ByteArray)(i:Nat):ByteArray:=match(bsp s i).2 with|some a=>s.extract a i|none=>⟨#[]⟩
theorem words_b (s:ByteArray):words s=wOut s (s.size+1):=by
 unfold words Lib.goFieldsP Lib.spansOfP Lib.closeSpans wOut;have h:=spans_b s s.size 0 (hZ _) om_;have e:Lib.spansFromP (fun r=>r==32) s s.size 0 none []=bsp s s.size:=h;have b:bAt s s.size=32:=if_neg om_;rw[e];cases st:(bsp s s.size).2 with
 |some a=>rw[bsp_end b st]
 |none=>rw[bsp_blank b st]
theorem wOut_no {s:ByteArray}{i:Nat}(h:bAt s i≠32):wOut s (i+1)=wOut s i:=by unfold wOut;rw[bsp_no h]
theorem wCur_no {s:ByteArray}{i:Nat}(h:bAt s i≠32):wCur s (i+1)=wCur s i++s.extract i (i+1):=by
 unfold wCur;rw[bsp_no h];cases st:(bsp s i).2 with
 |some a=>
  have:=bsp_lt st;simp only[Option.getD_some];apply Txt.ba_list;rw[ByteArray.toList_eq,ByteArray.toList_eq];simp only[ByteArray.data_append,ByteArray.data_extract,Array.extract_append_extract];rw[Nat.min_eq_left om_,Nat.max_eq_right om_]
 |none=>
  simp only[Option.getD_none];apply Txt.ba_list;rw[ByteArray.toList_eq,ByteArray.toList_eq];simp
theorem wCur_size {s:ByteArray}{i:Nat}(hi:i≤s.size):(wCur s i).size≤i∧((wCur s i).size=0↔(bsp s i).2=none):=by
 unfold wCur;cases st:(bsp s i).2 with
 |some a=>
  have:=bsp_lt st;simp only[ByteArray.size_extract];refine⟨om_,?_⟩;constructor
  ·intro z;omega
  ·intro z;cases z
 |none=>exact⟨hZ _,by simp;rfl⟩
theorem wOut_end {s:ByteArray}{i:Nat}(h:bAt s i=32)(hc:(wCur s i).size≠0)(hi:i≤s.size):wOut s (i+1)=wOut s i++[wCur s i]∧wCur s (i+1)=⟨#[]⟩:=by
 have z:=(wCur_size hi).2;unfold wOut wCur at*;cases st:(bsp s i).2 with
 |some a=>rw[bsp_end h st];simp
 |none=>exact absurd (z.2 st) hc
theorem wOut_blank {s:ByteArray}{i:Nat}(h:bAt s i=32)(hc:(wCur s i).size=0)(hi:i≤s.size):wOut s (i+1)=wOut s i∧wCur s (i+1)=⟨#[]⟩:=by
 have z:=(wCur_size hi).2.1 hc;unfold wOut wCur;rw[bsp_blank h z];exact⟨rfl,rfl⟩
theorem wOut_len (s:ByteArray):∀i,(wOut s i).length≤i
 |0=>gY _
 |i+1=>by
  have ih:=wOut_len s i;unfold wOut at*;rw[iO]at*;by_cases c:bAt s i=32
  ·cases e:(bsp s i).2 with
   |none=>rw[bsp_blank c e];show(bsp s i).1.length≤_;omega
   |some b=>rw[bsp_end c e];simp only[gZ,iT];omega
  ·rw[bsp_no c];show(bsp s i).1.length≤_;omega
end Dsk
end
section
open Go.RowKit
open Idl (Stp chk stpA strs)
theorem byte_at {s:ByteArray}{i:Nat}(h:i<s.size):Dsk.bAt s i=s[i].toNat:=by
 unfold Dsk.bAt;rw[if_pos h,List.getD_eq_getElem?_getD,iB (show i<s.data.toList.length from h)];rfl
theorem aK (s:ByteArray)(hs:s.size≤100000)(w:World):
 Calls Tryz.prog 31 #[.string s] w fun e w'=>∃v,e=.returned v∧w'.ownsRow w.heap.size 9 1 v (Dsk.words s).length (strs (Dsk.words s))∧Below w.heap.size w w':=by
 obtain⟨i0,hi0,hz0,hz1,hz2⟩:=info_parts str_info9;rw[Dsk.words_b];go_enter Tryz.func31,Tryz.ntmps31;go_wp2_with fail;go_loopw [3,4,5] (fun v u t wr=>∃i:Nat,i≤s.size+1∧t=.int .i64 i∧u=.string (Dsk.wCur s i)∧Hid (wr.ownsRow w.heap.size 9 1 v (Dsk.wOut s i).length (strs (Dsk.wOut s i)))∧Hid (Below w.heap.size w wr)) (fun _ _ t _=>s.size+1-(intOf t).toNat)
 case atStart=>exact⟨0,hZ _,rfl,rfl,ae (World.ownsRow_nil w w.heap.size 9 1),ae (gX _ _)⟩
 case round=>
  obtain⟨i,hi,rfl,rfl,OW,BW⟩:=hrel;have wl:=Dsk.wOut_len s i;by_cases hlt:i≤s.size
  case neg=>
   have hz:¬(i:Int)≤(s.size:Int):=om_;obtain rfl:i=s.size+1:=om_;generalize Dsk.wCur s (s.size+1)=X;go_wp2_with fail;go_ret;exact⟨_,rfl,ac OW,ac BW⟩
  case pos=>
   have hz:(i:Int)≤(s.size:Int):=om_;have cs:=Dsk.wCur_size hlt;by_cases hb:Dsk.bAt s i=32
   case neg=>
    have hil:i<s.size:=by
     apply Nat.lt_of_not_le;intro z;exact hb (if_neg om_)
    have hiz:(i:Int)<(s.size:Int):=om_;have hbb:¬(s[i].toNat:Int)=32:=by have:=byte_at hil;omega
    have EC:=ae (Dsk.wCur_no hb);rw[←Dsk.wOut_no hb]at OW;generalize Dsk.wCur s i=X at*;have hadd:X.size+(s.extract i (i+1)).size≤9223372036854775807:=by rw[ByteArray.size_extract];omega
    clear hb cs;go_wp2_with fail;go_roundw
    case rel=>exact⟨i+1,om_,by go_num,by rw[ac EC],OW,BW⟩
    case measure=>simp[intOf];omega
   case pos=>
    have hq:(∃h:i<s.size,(s[i].toNat:Int)=32∧(i:Int)<(s.size:Int))∨¬(i:Int)<(s.size:Int):=by
     by_cases h:i<s.size
     ·exact .inl ⟨h,by have:=byte_at h;omega,om_⟩
     ·exact .inr om_
    have E1:=ae (fun hc=>Dsk.wOut_end hb hc hlt);have E0:=ae (fun hc=>Dsk.wOut_blank hb hc hlt);generalize Dsk.wCur s i=X at*;clear hb cs;rcases hq with⟨hil,hbb,hiz⟩|hiz;all_goals
     by_cases h0:X.size=0
     ·obtain⟨e1,e2⟩:=ac E0 h0;rw[←e1]at OW;have EC:=ae e2;obtain rfl:X=⟨#[]⟩:=Txt.ba_list (by rw[ByteArray.toList_eq,ByteArray.toList_eq];exact List.length_eq_zero_iff.1 h0);clear e1 e2 E1 E0 h0;go_wp2_with fail;go_roundw
      case rel=>exact⟨i+1,om_,by go_num,by rw[ac EC],OW,BW⟩
      case measure=>simp[intOf];omega
     ·obtain⟨e1,e2⟩:=ac E1 h0;have EL:=ae (show strs (Dsk.wOut s (i+1))=strs (Dsk.wOut s i)++[.string X]∧(Dsk.wOut s (i+1)).length=(Dsk.wOut s i).length+1 by rw[e1];simp[strs]);have EC:=ae e2;have hne:(X.toList==[])=false:=by
       rw[beq_eq_false_iff_ne];intro z;apply h0;rw[←ap,z];rfl
      clear e1 e2 E1 E0 h0;generalize Dsk.wOut s i=O at*;go_wp2_with(at_builtin;refine wpList_append_own _ rfl _ _ 22 rfl w.heap.size 9 i0 _ 1 16 Tryz.underlying22 hi0 hz0 hz1 hz2 rfl om_ _ O.length _ rfl ((ac OW).alloc _) ⟨_,0,none⟩ 1 1 [.string X] rfl rfl (Idl.one_new _ _ _ _ sp_) (Idl.one_str X) (by unfold maxLen;omega) om_ (by have:=(ac BW).size;simp;omega) ?_;intro v' w2 ho2 hg2 _);go_roundw
      case rel=>
       refine⟨i+1,om_,by go_num,by rw[ac EC],ae ?_,ae ?_⟩
       ·rw[(ac EL).1,(ac EL).2];exact ho2
       ·have hB2:=(ac BW).alloc (ac BW).size (.cells #[.string X] 9);exact hB2.grown hg2 hB2.size (fun j hj=>((ac OW).lt j hj).1)
      case measure=>simp[intOf];omega
end
section
open Go.RowKit
open Idl (Stp chk stpA strs)
theorem Op9.ld_ws {o:Oper}{ρ:Operand→Value}(x:Operand)(ho:o.op=.load 22 x){g o0:Nat}(hx:ρ x=.pointer (some ⟨g,o0,none⟩)){a:Option Addr}{n c:Nat}(w:World)(h:w.cell? ⟨g,o0,none⟩=some (.slice a n c)):(execOp ρ o).run Tryz.prog w=.ok (.value (.slice a n c)) w:=by
 unfold execOp;rw[ho];go_simp
theorem Op9.ixc {o:Oper}{ρ:Operand→Value}(x:Operand)(j:Nat)(ho:o.op=.indexAddr 22 x (.const (.int .i64 (j:Int)))){g n c:Nat}(hx:ρ x=.slice (some ⟨g,0,none⟩) n c)(hy:ρ (.const (.int .i64 (j:Int)))=.int .i64 (j:Int))(hj:j<n)(w:World):(execOp ρ o).run Tryz.prog w=.ok (.value (.pointer (some ⟨g,j,none⟩))) w:=by
 have jz:(j:Int)<(n:Int):=om_;unfold execOp;rw[ho];go_simp
structure Lf (gd gb g2 g4 A c:Nat)(ws:List ByteArray)(V:World):Prop where
 c2:V.cell? ⟨g2,0,none⟩=some (.pointer (some ⟨gd,0,none⟩))
 c4:V.cell? ⟨g4,0,none⟩=some (.slice (some ⟨A,0,none⟩) ws.length c)
 cw:∀(i:Nat) x,ws[i]? =some x→V.cell? ⟨A,i,none⟩=some (.string x)
 cd:V.cell? ⟨gd,1,none⟩=some (.pointer (some ⟨gb,0,none⟩))
structure Ll (w:World)(gd gb g2 g4 A c:Nat)(ws:List ByteArray)(S:Lv)(l:List UInt8)(V:World):Prop where
 rd:Rd w gd gb S l V
 lf:Lf gd gb g2 g4 A c ws V
 n2:g2≠gd∧g2≠gb
 n4:g4≠gd∧g4≠gb
 nA:A≠gd∧A≠gb
section
variable {w W W':World}{gd gb g2 g4 A c:Nat}{ws:List ByteArray}{S T:Lv}{l k:List UInt8}
theorem Ll.call (h:Ll w gd gb g2 g4 A c ws S l W)(hb:Below W.heap.size W W'):Ll w gd gb g2 g4 A c ws S l W':=
 ⟨h.rd.call hb,⟨aq hb h.lf.c2,aq hb h.lf.c4,fun i x hx=>aq hb (h.lf.cw i x hx),aq hb h.lf.cd⟩,h.n2,h.n4,h.nA⟩
theorem rc_cell (hc:Rc gd gb W W'){g o:Nat}(hn:g≠gd∧g≠gb){v:Value}(h:W.cell? ⟨g,o,none⟩=some v):W'.cell? ⟨g,o,none⟩=some v:=by
 have e:=hc.block g (Lib.lt_of_cell h) (fun z=>by rcases z with z|z;exact hn.1 z;exact hn.2 z);rw[←h];unfold World.cell?;simp only[e]
theorem Ll.next (h:Ll w gd gb g2 g4 A c ws S l W)(hr:Rd w gd gb T k W')(hc:Rc gd gb W W'):Ll w gd gb g2 g4 A c ws T k W':=
 ⟨hr,⟨rc_cell hc h.n2 h.lf.c2,rc_cell hc h.n4 h.lf.c4,fun i x hx=>rc_cell hc h.nA (h.lf.cw i x hx),hr.cell1⟩,h.n2,h.n4,h.nA⟩
theorem Ll.start (h:Rd w gd gb S l W){w1:World}{v:Value}(hw:ws≠[])(ow:w1.ownsRow (W.heap.size+1) 9 1 v ws.length (strs ws))(b1:Below (W.heap.size+1) (W.alloc (.cells #[.pointer (some ⟨gd,0,none⟩)] 27)) w1):
 ∃A c,v=.slice (some ⟨A,0,none⟩) ws.length c∧Ll w gd gb W.heap.size w1.heap.size A c ws S l (w1.alloc (.cells #[.slice (some ⟨A,0,none⟩) ws.length c] 22))∧
  Rc gd gb W (w1.alloc (.cells #[.slice (some ⟨A,0,none⟩) ws.length c] 22)):=by
 have hz:(W.alloc (.cells #[.pointer (some ⟨gd,0,none⟩)] 27)).heap.size=W.heap.size+1:=sp_;have b1':Below (W.alloc (.cells #[.pointer (some ⟨gd,0,none⟩)] 27)).heap.size (W.alloc (.cells #[.pointer (some ⟨gd,0,none⟩)] 27)) w1:=by rw[hz];exact b1
 have s1:=b1'.size;rcases ow.2 with⟨_,z⟩|⟨A,c,cur,hv,hA,hg,_⟩
 ·exact absurd (List.length_eq_zero_iff.1 z) hw
 have hAl:A<w1.heap.size:=(gW.1 hg).1;have hl:=h.lt;have hb:=h.bed.lt;subst hv;refine⟨A,c,rfl,?_⟩;have B1:Below W.heap.size W w1:=((gX _ W).alloc (gY _) _).trans (b1.mono om_);have B3:=B1.alloc B1.size (.cells #[.slice (some ⟨A,0,none⟩) ws.length c] 22);have B4:Below w1.heap.size w1 (w1.alloc (.cells #[.slice (some ⟨A,0,none⟩) ws.length c] 22)):=(gX _ w1).alloc (gY _) _;refine⟨⟨h.call B3,⟨?_,?_,fun i x hx=>?_,(h.call B3).cell1⟩,⟨om_,om_⟩,⟨om_,om_⟩,⟨om_,om_⟩⟩,Idl.Chg.of_below B3⟩
 ·refine aq B4 (aq b1' ?_);rw[Lib.cell_of_heap (iV _ _)];rfl
 ·rw[Lib.cell_of_heap (iV _ _)];rfl
 ·refine aq B4 ?_;have hlt:=(ip.1 hx).1;rw[ow.cellAt i om_];simp[strs,hx]
end
theorem gP {cs ds tl:Array Value}(h1:cs.size=94)(h2:ds.size=94):(cs++(ds++tl)).extract 94 (94+94)=ds:=by
 refine ir fun i=>?_;rw[ie];by_cases hi:i<94
 ·rw[if_pos (by simp;omega),Array.getElem?_append_right om_,iD om_];congr 1;omega
 ·rw[if_neg (by simp;omega),iv om_]
theorem Bl.hasN {W:World}{g:Nat}{S:Lv}(h:Bl W g S):ai W g 0 S.now:=by
 obtain⟨bs,es,hr,hb1,hb2⟩:=h;have zb:=hb1.size;exact bh hr (by rw[iC,zb];omega) (dt zb) hb1
theorem Bl.hasD {W:World}{g:Nat}{S:Lv}(h:Bl W g S):ai W g 94 S.disk:=by
 obtain⟨bs,es,hr,hb1,hb2⟩:=h;have zb:=hb1.size;have zc:=hb2.size;exact bh hr (by rw[iC,iC,zb,zc];omega) (gP zb zc) hb2
theorem Bl.tail {W:World}{g:Nat}{S:Lv}(h:Bl W g S)(i:Nat):W.cell? ⟨g,188+i,none⟩=(Sft.btl S.last (.int .i64 S.cr) (.int .i64 S.lf) (.int .i64 S.lc) (.int .i64 S.ld))[i]? :=by
 obtain⟨bs,es,hr,hb1,hb2⟩:=h;rw[iW _ _ _ _ _ _ hr];exact dM hb1.size hb2.size i
theorem Bl.cr {W:World}{g:Nat}{S:Lv}(h:Bl W g S):W.cell? ⟨g,189,none⟩=some (.int .i64 S.cr):=h.tail 1
theorem Bl.lf {W:World}{g:Nat}{S:Lv}(h:Bl W g S):W.cell? ⟨g,190,none⟩=some (.int .i64 S.lf):=h.tail 2
theorem Bl.lc {W:World}{g:Nat}{S:Lv}(h:Bl W g S):W.cell? ⟨g,191,none⟩=some (.int .i64 S.lc):=h.tail 3
theorem Bl.ld {W:World}{g:Nat}{S:Lv}(h:Bl W g S):W.cell? ⟨g,192,none⟩=some (.int .i64 S.ld):=h.tail 4
theorem line_lost_eq (a b c d:List UInt8):(((((((([108,111,115,116,32]++a)++[32])++b)++[32])++c)++[32])++d))++[10]=Txt.line [Dsk.wLost,a,b,c,d]:=by
 simp[Txt.line,Txt.tailW,Dsk.wLost]
end
end Go.Proofs.YtfpfpnhpbnnmfadGreatDoor
