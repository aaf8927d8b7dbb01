import Derived.Test.YtfpfpnhpbnnmfadGreatDoorXaa
import Derived.Test.YtfpfpnhpbnnmfadGreatDoorXbm
import Derived.Test.YtfpfpnhpbnnmfadGreatDoorXbn
import Derived.Test.YtfpfpnhpbnnmfadGreatDoorXbo
import Derived.Test.YtfpfpnhpbnnmfadGreatDoorXbp
import Derived.Test.YtfpfpnhpbnnmfadGreatDoorXbq
import Derived.Test.YtfpfpnhpbnnmfadGreatDoorXbr
import Derived.Test.YtfpfpnhpbnnmfadGreatDoorXbs
import Derived.Test.YtfpfpnhpbnnmfadGreatDoorXbt
import Derived.Test.YtfpfpnhpbnnmfadGreatDoorXbv
import Derived.Test.YtfpfpnhpbnnmfadGreatDoorXbw
import Derived.Test.YtfpfpnhpbnnmfadGreatDoorXbx
import Derived.Test.YtfpfpnhpbnnmfadGreatDoorXbz
set_option maxHeartbeats 40000000
set_option maxRecDepth 100000
set_option linter.unusedVariables false
namespace Go.Proofs.YtfpfpnhpbnnmfadGreatDoor
section
open Go.RowKit
open Idl (Stp chk stpA strs)
namespace Dsk
theorem isIt_frm (x:ByteArray)(n:Nat)(f:Frm):isIt x (n+1) f.word (f.places.size:Int)=isFrm x n f:=by
 unfold isIt isFrm;rw[Bool.eq_iff_iff];simp only[ik,beq_iff_eq];constructor
 ·rintro⟨h1,h2⟩;exact⟨h1.symm,om_⟩
 ·rintro⟨h1,h2⟩;exact⟨h1.symm,om_⟩
theorem find_at {x:ByteArray}{n:Nat}{a:List Frm}{f:Frm}{b:List Frm}(e:frms=a++f::b)(ha:∀g∈a,isFrm x n g=false)(hf:isFrm x n f=true):frms.find? (isFrm x n)=some f:=by
 rw[e,List.find?_append,List.find?_eq_none.2 (fun g hg=>by rw[ha g hg];simp),List.find?_cons_of_pos hf];rfl
theorem find_none {x:ByteArray}{n:Nat}(h:∀g∈frms,isFrm x n g=false):frms.find? (isFrm x n)=none:=List.find?_eq_none.2 (fun g hg=>by rw[h g hg];simp)
theorem frm_len {x:ByteArray}{n:Nat}{f:Frm}(h:isFrm x n f=true):n=f.places.size:=by
 unfold isFrm at h;rw[ik]at h;have:=beq_iff_eq.1 h.2;omega
theorem frm_word {x:ByteArray}{n:Nat}{f:Frm}(h:isFrm x n f=true):x.toList=f.word.toList:=by
 unfold isFrm at h;rw[ik]at h;exact(beq_iff_eq.1 h.1).symm
theorem it_of {x:ByteArray}{n:Nat}{f:Frm}{b:Bool}(h:isFrm x n f=b){u:ByteArray}{k:Int}(hu:f.word=u)(hk:(f.places.size:Int)=k):isIt x (n+1) u k=b:=by
 rw[←hu,←hk,isIt_frm];exact h
theorem told_eq (S:Lv)(x:ByteArray)(ms:List ByteArray):told S (x::ms)=(match meant x ms with|none=>Txt.line [wWhat]|some y=>if y.kind≠0 then ansStep S y else ansAsk S x.toList y):=rfl
theorem next_eq (S:Lv)(x:ByteArray)(ms:List ByteArray):next S (x::ms)=(match meant x ms with|none=>S|some y=>if y.kind≠0 then S.step y else S):=rfl
theorem told_step {S:Lv}{x:ByteArray}{ms:List ByteArray}{y:Stp}(h:meant x ms=some y)(hk:y.kind≠0):told S (x::ms)=ansStep S y∧next S (x::ms)=S.step y:=by
 rw[told_eq,next_eq,h];exact⟨if_pos hk,if_pos hk⟩
theorem told_ask {S:Lv}{x:ByteArray}{ms:List ByteArray}{y:Stp}(h:meant x ms=some y)(hk:y.kind=0){u:List UInt8}(hx:x.toList=u):told S (x::ms)=ansAsk S u y∧next S (x::ms)=S:=by
 rw[told_eq,next_eq,h,←hx];exact⟨if_neg (fun z=>z hk),if_neg (fun z=>z hk)⟩
theorem told_what {S:Lv}{x:ByteArray}{ms:List ByteArray}(h:meant x ms=none):told S (x::ms)=Txt.line [wWhat]∧next S (x::ms)=S:=by
 rw[told_eq,next_eq,h];exact⟨rfl,rfl⟩
theorem meant_at {x:ByteArray}{ms:List ByteArray}{f:Frm}(h:frms.find? (isFrm x ms.length)=some f){pl:List UInt8}(hp:f.places.data.toList=pl):meant x ms=fills (blank f.kind) pl ms:=by
 unfold meant;rw[h,←hp];show fills _ f.places.toList ms=_;rw[ByteArray.toList_eq]
theorem l0 {ms:List ByteArray}(h:ms.length=0):ms=[]:=List.length_eq_zero_iff.1 h
theorem l1 {ms:List ByteArray}(h:ms.length=1):∃a,ms=[a]:=List.length_eq_one_iff.1 h
theorem l2 {ms:List ByteArray}(h:ms.length=2):∃a b,ms=[a,b]:=by
 match ms,h with
 |[a,b],_=>exact⟨a,b,rfl⟩
theorem l3 {ms:List ByteArray}(h:ms.length=3):∃a b c,ms=[a,b,c]:=by
 match ms,h with
 |[a,b,c],_=>exact⟨a,b,c,rfl⟩
theorem l4 {ms:List ByteArray}(h:ms.length=4):∃a b c d,ms=[a,b,c,d]:=by
 match ms,h with
 |[a,b,c,d],_=>exact⟨a,b,c,d,rfl⟩
end Dsk
section
variable {w W W':World}{gd gb:Nat}{S:Lv}{l:List UInt8}
theorem line_none (h:Rd w gd gb S l W)(s:ByteArray)(hs:s.size≤50000)(hw:Dsk.words s=[]):
 Calls Tryz.prog 23 #[.pointer (some ⟨gd,0,none⟩),.string s] W fun e w'=>e=.returned (.tuple #[])∧Rd w gd gb S l w'∧Rc gd gb W w':=by
 have WD:=ae (aK s om_ (W.alloc (.cells #[.pointer (some ⟨gd,0,none⟩)] 27)));have hsz:(W.alloc (.cells #[.pointer (some ⟨gd,0,none⟩)] 27)).heap.size=W.heap.size+1:=sp_;rw[hsz,hw]at WD;have HH:=ae h;clear h hw hsz;go_enter Tryz.func23,Tryz.ntmps23;go_wp2_with fail;refine(ac WD).mono ?_;rintro e w1 ⟨v,rfl,ow,b1⟩;obtain⟨a,c,rfl,_⟩:=gp ow;have B1:Below W.heap.size W w1:=((gX _ W).alloc (gY _) _).trans (b1.mono om_);have B3:=ae (B1.alloc B1.size (.cells #[.slice a ([]:List ByteArray).length c] 22));clear ow b1 WD B1;go_wp2_with fail;(try simp only[Exit.inBlock,Exit.then]);refine bodyPost_ret (results_none rfl _ _ _) rfl ?_;exact⟨rfl,(ac HH).call (ac B3),Idl.Chg.of_below (ac B3)⟩
theorem rLine_any (h:Rd w gd gb S l W)(tb:aW w){n:Nat}(hO:S.Ok n)(hN:S.Neat)(hn:n≤1000000)(hlen:l.length+20000000≤140737488355328)(s:ByteArray)(hs:s.size≤50000):
 Calls Tryz.prog 23 #[.pointer (some ⟨gd,0,none⟩),.string s] W fun e w'=>e=.returned (.tuple #[])∧Rd w gd gb (Dsk.next S (Dsk.words s)) (l++Dsk.told S (Dsk.words s)) w'∧Rc gd gb W w':=by
 cases hw:Dsk.words s with
 |nil=>
  show Calls _ _ _ _ fun e w'=>_∧Rd w gd gb S (l++[]) w'∧_
  rw[iM];exact line_none h s hs hw
 |cons x ms=>
  by_cases q0:Dsk.isFrm x ms.length ⟨⟨#[109,97,107,101]⟩,⟨#[68,78]⟩,1⟩=true
  case pos=>
   have hl:ms.length=2:=Dsk.frm_len q0;obtain⟨a,b,rfl⟩:=Dsk.l2 hl;have F:Dsk.frms.find? (Dsk.isFrm x [a,b].length)=some ⟨⟨#[109,97,107,101]⟩,⟨#[68,78]⟩,1⟩:=Dsk.find_at (a:=[]) rfl (fun g hg=>by cases hg) q0;have M:Dsk.meant x [a,b]=some ⟨1,Dsk.num a,0,0,b,⟨#[]⟩,⟨#[]⟩⟩:=(Dsk.meant_at F rfl).trans rfl;rw[(Dsk.told_step (S:=S) M (show(1:Int)≠0 by decide)).1,(Dsk.told_step (S:=S) M (show(1:Int)≠0 by decide)).2];exact line_make h tb hO hn om_ s hs x a b hw (Dsk.it_of q0 rfl rfl)
  case neg=>
   have q0:=iG.2 q0;by_cases q1:Dsk.isFrm x ms.length ⟨⟨#[117,110,108,105,110,107]⟩,⟨#[68,78]⟩,3⟩=true
   case pos=>
    have hl:ms.length=2:=Dsk.frm_len q1;obtain⟨a,b,rfl⟩:=Dsk.l2 hl;have F:Dsk.frms.find? (Dsk.isFrm x [a,b].length)=some ⟨⟨#[117,110,108,105,110,107]⟩,⟨#[68,78]⟩,3⟩:=Dsk.find_at (a:=[⟨⟨#[109,97,107,101]⟩,⟨#[68,78]⟩,1⟩]) rfl (by simp only[iJ,iA,false_implies,implies_true,and_true];exact q0) q1;have M:Dsk.meant x [a,b]=some ⟨3,Dsk.num a,0,0,b,⟨#[]⟩,⟨#[]⟩⟩:=(Dsk.meant_at F rfl).trans rfl;rw[(Dsk.told_step (S:=S) M (show(3:Int)≠0 by decide)).1,(Dsk.told_step (S:=S) M (show(3:Int)≠0 by decide)).2];exact line_unlink h tb hO hn om_ s hs x a b hw (Dsk.it_of q0 rfl rfl) (Dsk.it_of q1 rfl rfl)
   case neg=>
    have q1:=iG.2 q1;by_cases q2:Dsk.isFrm x ms.length ⟨⟨#[108,105,110,107]⟩,⟨#[68,78,69,77]⟩,2⟩=true
    case pos=>
     have hl:ms.length=4:=Dsk.frm_len q2;obtain⟨a,b,d,f,rfl⟩:=Dsk.l4 hl;have F:Dsk.frms.find? (Dsk.isFrm x [a,b,d,f].length)=some ⟨⟨#[108,105,110,107]⟩,⟨#[68,78,69,77]⟩,2⟩:=Dsk.find_at (a:=[⟨⟨#[109,97,107,101]⟩,⟨#[68,78]⟩,1⟩,⟨⟨#[117,110,108,105,110,107]⟩,⟨#[68,78]⟩,3⟩]) rfl (by simp only[iJ,iA,false_implies,implies_true,and_true];exact⟨q0,q1⟩) q2;have M:Dsk.meant x [a,b,d,f]=some ⟨2,Dsk.num a,Dsk.num d,0,b,f,⟨#[]⟩⟩:=(Dsk.meant_at F rfl).trans rfl;rw[(Dsk.told_step (S:=S) M (show(2:Int)≠0 by decide)).1,(Dsk.told_step (S:=S) M (show(2:Int)≠0 by decide)).2];exact line_link h tb hO hn om_ s hs x a b d f hw (Dsk.it_of q0 rfl rfl) (Dsk.it_of q1 rfl rfl) (Dsk.it_of q2 rfl rfl)
    case neg=>
     have q2:=iG.2 q2;by_cases q3:Dsk.isFrm x ms.length ⟨⟨#[114,101,110,97,109,101]⟩,⟨#[68,78,69,77]⟩,4⟩=true
     case pos=>
      have hl:ms.length=4:=Dsk.frm_len q3;obtain⟨a,b,d,f,rfl⟩:=Dsk.l4 hl;have F:Dsk.frms.find? (Dsk.isFrm x [a,b,d,f].length)=some ⟨⟨#[114,101,110,97,109,101]⟩,⟨#[68,78,69,77]⟩,4⟩:=Dsk.find_at (a:=[⟨⟨#[109,97,107,101]⟩,⟨#[68,78]⟩,1⟩,⟨⟨#[117,110,108,105,110,107]⟩,⟨#[68,78]⟩,3⟩,⟨⟨#[108,105,110,107]⟩,⟨#[68,78,69,77]⟩,2⟩]) rfl (by simp only[iJ,iA,false_implies,implies_true,and_true];exact⟨q0,q1,q2⟩) q3;have M:Dsk.meant x [a,b,d,f]=some ⟨4,Dsk.num a,Dsk.num d,0,b,f,⟨#[]⟩⟩:=(Dsk.meant_at F rfl).trans rfl;rw[(Dsk.told_step (S:=S) M (show(4:Int)≠0 by decide)).1,(Dsk.told_step (S:=S) M (show(4:Int)≠0 by decide)).2];exact line_rename h tb hO hn om_ s hs x a b d f hw (Dsk.it_of q0 rfl rfl) (Dsk.it_of q1 rfl rfl) (Dsk.it_of q2 rfl rfl) (Dsk.it_of q3 rfl rfl)
     case neg=>
      have q3:=iG.2 q3;by_cases q4:Dsk.isFrm x ms.length ⟨⟨#[112,117,116]⟩,⟨#[68,78,80,84]⟩,5⟩=true
      case pos=>
       have hl:ms.length=4:=Dsk.frm_len q4;obtain⟨a,b,d,f,rfl⟩:=Dsk.l4 hl;have F:Dsk.frms.find? (Dsk.isFrm x [a,b,d,f].length)=some ⟨⟨#[112,117,116]⟩,⟨#[68,78,80,84]⟩,5⟩:=Dsk.find_at (a:=[⟨⟨#[109,97,107,101]⟩,⟨#[68,78]⟩,1⟩,⟨⟨#[117,110,108,105,110,107]⟩,⟨#[68,78]⟩,3⟩,⟨⟨#[108,105,110,107]⟩,⟨#[68,78,69,77]⟩,2⟩,⟨⟨#[114,101,110,97,109,101]⟩,⟨#[68,78,69,77]⟩,4⟩]) rfl (by simp only[iJ,iA,false_implies,implies_true,and_true];exact⟨q0,q1,q2,q3⟩) q4;cases hm:Dsk.meanL f.toList with
       |none=>
        have M:Dsk.meant x [a,b,d,f]=none:=(Dsk.meant_at F rfl).trans (by show((Dsk.mean f).map _).bind _=none;unfold Dsk.mean;rw[hm];rfl);rw[(Dsk.told_what (S:=S) M).1,(Dsk.told_what (S:=S) M).2];exact line_put_no h tb hO hn om_ s hs x a b d f hw (Dsk.it_of q0 rfl rfl) (Dsk.it_of q1 rfl rfl) (Dsk.it_of q2 rfl rfl) (Dsk.it_of q3 rfl rfl) (Dsk.it_of q4 rfl rfl) (fun t z=>by rw[(Dsk.meanL_iff _ t).2 z]at hm;cases hm)
       |some tx=>
        have M:Dsk.meant x [a,b,d,f]=some ⟨5,Dsk.num a,0,Dsk.num d,b,⟨#[]⟩,mkb tx⟩:=(Dsk.meant_at F rfl).trans (by show((Dsk.mean f).map _).bind _=_;unfold Dsk.mean;rw[hm];rfl);rw[(Dsk.told_step (S:=S) M (show(5:Int)≠0 by decide)).1,(Dsk.told_step (S:=S) M (show(5:Int)≠0 by decide)).2];exact line_put h tb hO hn om_ s hs x a b d f hw (Dsk.it_of q0 rfl rfl) (Dsk.it_of q1 rfl rfl) (Dsk.it_of q2 rfl rfl) (Dsk.it_of q3 rfl rfl) (Dsk.it_of q4 rfl rfl) tx ((Dsk.meanL_iff _ tx).1 hm)
      case neg=>
       have q4:=iG.2 q4;by_cases q5:Dsk.isFrm x ms.length ⟨⟨#[99,117,116]⟩,⟨#[68,78,80]⟩,6⟩=true
       case pos=>
        have hl:ms.length=3:=Dsk.frm_len q5;obtain⟨a,b,d,rfl⟩:=Dsk.l3 hl;have F:Dsk.frms.find? (Dsk.isFrm x [a,b,d].length)=some ⟨⟨#[99,117,116]⟩,⟨#[68,78,80]⟩,6⟩:=Dsk.find_at (a:=[⟨⟨#[109,97,107,101]⟩,⟨#[68,78]⟩,1⟩,⟨⟨#[117,110,108,105,110,107]⟩,⟨#[68,78]⟩,3⟩,⟨⟨#[108,105,110,107]⟩,⟨#[68,78,69,77]⟩,2⟩,⟨⟨#[114,101,110,97,109,101]⟩,⟨#[68,78,69,77]⟩,4⟩,⟨⟨#[112,117,116]⟩,⟨#[68,78,80,84]⟩,5⟩]) rfl (by simp only[iJ,iA,false_implies,implies_true,and_true];exact⟨q0,q1,q2,q3,q4⟩) q5;have M:Dsk.meant x [a,b,d]=some ⟨6,Dsk.num a,0,Dsk.num d,b,⟨#[]⟩,⟨#[]⟩⟩:=(Dsk.meant_at F rfl).trans rfl;rw[(Dsk.told_step (S:=S) M (show(6:Int)≠0 by decide)).1,(Dsk.told_step (S:=S) M (show(6:Int)≠0 by decide)).2];exact line_cut h tb hO hn om_ s hs x a b d hw (Dsk.it_of q0 rfl rfl) (Dsk.it_of q1 rfl rfl) (Dsk.it_of q2 rfl rfl) (Dsk.it_of q3 rfl rfl) (Dsk.it_of q4 rfl rfl) (Dsk.it_of q5 rfl rfl)
       case neg=>
        have q5:=iG.2 q5;by_cases q6:Dsk.isFrm x ms.length ⟨⟨#[119,114,105,116,101]⟩,⟨#[66]⟩,7⟩=true
        case pos=>
         have hl:ms.length=1:=Dsk.frm_len q6;obtain⟨a,rfl⟩:=Dsk.l1 hl;have F:Dsk.frms.find? (Dsk.isFrm x [a].length)=some ⟨⟨#[119,114,105,116,101]⟩,⟨#[66]⟩,7⟩:=Dsk.find_at (a:=[⟨⟨#[109,97,107,101]⟩,⟨#[68,78]⟩,1⟩,⟨⟨#[117,110,108,105,110,107]⟩,⟨#[68,78]⟩,3⟩,⟨⟨#[108,105,110,107]⟩,⟨#[68,78,69,77]⟩,2⟩,⟨⟨#[114,101,110,97,109,101]⟩,⟨#[68,78,69,77]⟩,4⟩,⟨⟨#[112,117,116]⟩,⟨#[68,78,80,84]⟩,5⟩,⟨⟨#[99,117,116]⟩,⟨#[68,78,80]⟩,6⟩]) rfl (by simp only[iJ,iA,false_implies,implies_true,and_true];exact⟨q0,q1,q2,q3,q4,q5⟩) q6;have M:Dsk.meant x [a]=some ⟨7,0,0,Dsk.num a,⟨#[]⟩,⟨#[]⟩,⟨#[]⟩⟩:=(Dsk.meant_at F rfl).trans rfl;rw[(Dsk.told_step (S:=S) M (show(7:Int)≠0 by decide)).1,(Dsk.told_step (S:=S) M (show(7:Int)≠0 by decide)).2];exact line_write h tb hO hn om_ s hs x a hw (Dsk.it_of q0 rfl rfl) (Dsk.it_of q1 rfl rfl) (Dsk.it_of q2 rfl rfl) (Dsk.it_of q3 rfl rfl) (Dsk.it_of q4 rfl rfl) (Dsk.it_of q5 rfl rfl) (Dsk.it_of q6 rfl rfl)
        case neg=>
         have q6:=iG.2 q6;by_cases q7:Dsk.isFrm x ms.length ⟨⟨#[115,121,110,99]⟩,⟨#[]⟩,8⟩=true
         case pos=>
          have hl:ms.length=0:=Dsk.frm_len q7;obtain rfl:=Dsk.l0 hl;have F:Dsk.frms.find? (Dsk.isFrm x [].length)=some ⟨⟨#[115,121,110,99]⟩,⟨#[]⟩,8⟩:=Dsk.find_at (a:=[⟨⟨#[109,97,107,101]⟩,⟨#[68,78]⟩,1⟩,⟨⟨#[117,110,108,105,110,107]⟩,⟨#[68,78]⟩,3⟩,⟨⟨#[108,105,110,107]⟩,⟨#[68,78,69,77]⟩,2⟩,⟨⟨#[114,101,110,97,109,101]⟩,⟨#[68,78,69,77]⟩,4⟩,⟨⟨#[112,117,116]⟩,⟨#[68,78,80,84]⟩,5⟩,⟨⟨#[99,117,116]⟩,⟨#[68,78,80]⟩,6⟩,⟨⟨#[119,114,105,116,101]⟩,⟨#[66]⟩,7⟩]) rfl (by simp only[iJ,iA,false_implies,implies_true,and_true];exact⟨q0,q1,q2,q3,q4,q5,q6⟩) q7;have M:Dsk.meant x []=some ⟨8,0,0,0,⟨#[]⟩,⟨#[]⟩,⟨#[]⟩⟩:=(Dsk.meant_at F rfl).trans rfl;rw[(Dsk.told_step (S:=S) M (show(8:Int)≠0 by decide)).1,(Dsk.told_step (S:=S) M (show(8:Int)≠0 by decide)).2];exact line_sync h tb hO hn om_ s hs x hw (Dsk.it_of q0 rfl rfl) (Dsk.it_of q1 rfl rfl) (Dsk.it_of q2 rfl rfl) (Dsk.it_of q3 rfl rfl) (Dsk.it_of q4 rfl rfl) (Dsk.it_of q5 rfl rfl) (Dsk.it_of q6 rfl rfl) (Dsk.it_of q7 rfl rfl)
         case neg=>
          have q7:=iG.2 q7;by_cases q8:Dsk.isFrm x ms.length ⟨⟨#[99,114,97,115,104]⟩,⟨#[]⟩,9⟩=true
          case pos=>
           have hl:ms.length=0:=Dsk.frm_len q8;obtain rfl:=Dsk.l0 hl;have F:Dsk.frms.find? (Dsk.isFrm x [].length)=some ⟨⟨#[99,114,97,115,104]⟩,⟨#[]⟩,9⟩:=Dsk.find_at (a:=[⟨⟨#[109,97,107,101]⟩,⟨#[68,78]⟩,1⟩,⟨⟨#[117,110,108,105,110,107]⟩,⟨#[68,78]⟩,3⟩,⟨⟨#[108,105,110,107]⟩,⟨#[68,78,69,77]⟩,2⟩,⟨⟨#[114,101,110,97,109,101]⟩,⟨#[68,78,69,77]⟩,4⟩,⟨⟨#[112,117,116]⟩,⟨#[68,78,80,84]⟩,5⟩,⟨⟨#[99,117,116]⟩,⟨#[68,78,80]⟩,6⟩,⟨⟨#[119,114,105,116,101]⟩,⟨#[66]⟩,7⟩,⟨⟨#[115,121,110,99]⟩,⟨#[]⟩,8⟩]) rfl (by simp only[iJ,iA,false_implies,implies_true,and_true];exact⟨q0,q1,q2,q3,q4,q5,q6,q7⟩) q8;have M:Dsk.meant x []=some ⟨9,0,0,0,⟨#[]⟩,⟨#[]⟩,⟨#[]⟩⟩:=(Dsk.meant_at F rfl).trans rfl;rw[(Dsk.told_step (S:=S) M (show(9:Int)≠0 by decide)).1,(Dsk.told_step (S:=S) M (show(9:Int)≠0 by decide)).2];exact line_crash h tb hO hn om_ s hs x hw (Dsk.it_of q0 rfl rfl) (Dsk.it_of q1 rfl rfl) (Dsk.it_of q2 rfl rfl) (Dsk.it_of q3 rfl rfl) (Dsk.it_of q4 rfl rfl) (Dsk.it_of q5 rfl rfl) (Dsk.it_of q6 rfl rfl) (Dsk.it_of q7 rfl rfl) (Dsk.it_of q8 rfl rfl)
          case neg=>
           have q8:=iG.2 q8;by_cases q9:Dsk.isFrm x ms.length ⟨⟨#[114,101,97,100]⟩,⟨#[68,78,80]⟩,0⟩=true
           case pos=>
            have hl:ms.length=3:=Dsk.frm_len q9;obtain⟨a,b,d,rfl⟩:=Dsk.l3 hl;have F:Dsk.frms.find? (Dsk.isFrm x [a,b,d].length)=some ⟨⟨#[114,101,97,100]⟩,⟨#[68,78,80]⟩,0⟩:=Dsk.find_at (a:=[⟨⟨#[109,97,107,101]⟩,⟨#[68,78]⟩,1⟩,⟨⟨#[117,110,108,105,110,107]⟩,⟨#[68,78]⟩,3⟩,⟨⟨#[108,105,110,107]⟩,⟨#[68,78,69,77]⟩,2⟩,⟨⟨#[114,101,110,97,109,101]⟩,⟨#[68,78,69,77]⟩,4⟩,⟨⟨#[112,117,116]⟩,⟨#[68,78,80,84]⟩,5⟩,⟨⟨#[99,117,116]⟩,⟨#[68,78,80]⟩,6⟩,⟨⟨#[119,114,105,116,101]⟩,⟨#[66]⟩,7⟩,⟨⟨#[115,121,110,99]⟩,⟨#[]⟩,8⟩,⟨⟨#[99,114,97,115,104]⟩,⟨#[]⟩,9⟩]) rfl (by simp only[iJ,iA,false_implies,implies_true,and_true];exact⟨q0,q1,q2,q3,q4,q5,q6,q7,q8⟩) q9;have M:Dsk.meant x [a,b,d]=some ⟨0,Dsk.num a,0,Dsk.num d,b,⟨#[]⟩,⟨#[]⟩⟩:=(Dsk.meant_at F rfl).trans rfl;rw[(Dsk.told_ask (S:=S) M rfl ((Dsk.frm_word q9).trans (ByteArray.toList_eq _))).1,(Dsk.told_ask (S:=S) M rfl ((Dsk.frm_word q9).trans (ByteArray.toList_eq _))).2];exact line_read h tb hO hn om_ s hN hs x a b d hw (Dsk.it_of q0 rfl rfl) (Dsk.it_of q1 rfl rfl) (Dsk.it_of q2 rfl rfl) (Dsk.it_of q3 rfl rfl) (Dsk.it_of q4 rfl rfl) (Dsk.it_of q5 rfl rfl) (Dsk.it_of q6 rfl rfl) (Dsk.it_of q7 rfl rfl) (Dsk.it_of q8 rfl rfl) (Dsk.it_of q9 rfl rfl)
           case neg=>
            have q9:=iG.2 q9;by_cases q10:Dsk.isFrm x ms.length ⟨⟨#[108,105,115,116]⟩,⟨#[68]⟩,0⟩=true
            case pos=>
             have hl:ms.length=1:=Dsk.frm_len q10;obtain⟨a,rfl⟩:=Dsk.l1 hl;have F:Dsk.frms.find? (Dsk.isFrm x [a].length)=some ⟨⟨#[108,105,115,116]⟩,⟨#[68]⟩,0⟩:=Dsk.find_at (a:=[⟨⟨#[109,97,107,101]⟩,⟨#[68,78]⟩,1⟩,⟨⟨#[117,110,108,105,110,107]⟩,⟨#[68,78]⟩,3⟩,⟨⟨#[108,105,110,107]⟩,⟨#[68,78,69,77]⟩,2⟩,⟨⟨#[114,101,110,97,109,101]⟩,⟨#[68,78,69,77]⟩,4⟩,⟨⟨#[112,117,116]⟩,⟨#[68,78,80,84]⟩,5⟩,⟨⟨#[99,117,116]⟩,⟨#[68,78,80]⟩,6⟩,⟨⟨#[119,114,105,116,101]⟩,⟨#[66]⟩,7⟩,⟨⟨#[115,121,110,99]⟩,⟨#[]⟩,8⟩,⟨⟨#[99,114,97,115,104]⟩,⟨#[]⟩,9⟩,⟨⟨#[114,101,97,100]⟩,⟨#[68,78,80]⟩,0⟩]) rfl (by simp only[iJ,iA,false_implies,implies_true,and_true];exact⟨q0,q1,q2,q3,q4,q5,q6,q7,q8,q9⟩) q10;have M:Dsk.meant x [a]=some ⟨0,Dsk.num a,0,0,⟨#[]⟩,⟨#[]⟩,⟨#[]⟩⟩:=(Dsk.meant_at F rfl).trans rfl;rw[(Dsk.told_ask (S:=S) M rfl ((Dsk.frm_word q10).trans (ByteArray.toList_eq _))).1,(Dsk.told_ask (S:=S) M rfl ((Dsk.frm_word q10).trans (ByteArray.toList_eq _))).2];exact line_list h tb hO hn om_ s hs x a hw (Dsk.it_of q0 rfl rfl) (Dsk.it_of q1 rfl rfl) (Dsk.it_of q2 rfl rfl) (Dsk.it_of q3 rfl rfl) (Dsk.it_of q4 rfl rfl) (Dsk.it_of q5 rfl rfl) (Dsk.it_of q6 rfl rfl) (Dsk.it_of q7 rfl rfl) (Dsk.it_of q8 rfl rfl) (Dsk.it_of q9 rfl rfl) (Dsk.it_of q10 rfl rfl)
            case neg=>
             have q10:=iG.2 q10;by_cases q11:Dsk.isFrm x ms.length ⟨⟨#[115,97,109,101]⟩,⟨#[68,78,69,77]⟩,0⟩=true
             case pos=>
              have hl:ms.length=4:=Dsk.frm_len q11;obtain⟨a,b,d,f,rfl⟩:=Dsk.l4 hl;have F:Dsk.frms.find? (Dsk.isFrm x [a,b,d,f].length)=some ⟨⟨#[115,97,109,101]⟩,⟨#[68,78,69,77]⟩,0⟩:=Dsk.find_at (a:=[⟨⟨#[109,97,107,101]⟩,⟨#[68,78]⟩,1⟩,⟨⟨#[117,110,108,105,110,107]⟩,⟨#[68,78]⟩,3⟩,⟨⟨#[108,105,110,107]⟩,⟨#[68,78,69,77]⟩,2⟩,⟨⟨#[114,101,110,97,109,101]⟩,⟨#[68,78,69,77]⟩,4⟩,⟨⟨#[112,117,116]⟩,⟨#[68,78,80,84]⟩,5⟩,⟨⟨#[99,117,116]⟩,⟨#[68,78,80]⟩,6⟩,⟨⟨#[119,114,105,116,101]⟩,⟨#[66]⟩,7⟩,⟨⟨#[115,121,110,99]⟩,⟨#[]⟩,8⟩,⟨⟨#[99,114,97,115,104]⟩,⟨#[]⟩,9⟩,⟨⟨#[114,101,97,100]⟩,⟨#[68,78,80]⟩,0⟩,⟨⟨#[108,105,115,116]⟩,⟨#[68]⟩,0⟩]) rfl (by simp only[iJ,iA,false_implies,implies_true,and_true];exact⟨q0,q1,q2,q3,q4,q5,q6,q7,q8,q9,q10⟩) q11;have M:Dsk.meant x [a,b,d,f]=some ⟨0,Dsk.num a,Dsk.num d,0,b,f,⟨#[]⟩⟩:=(Dsk.meant_at F rfl).trans rfl;rw[(Dsk.told_ask (S:=S) M rfl ((Dsk.frm_word q11).trans (ByteArray.toList_eq _))).1,(Dsk.told_ask (S:=S) M rfl ((Dsk.frm_word q11).trans (ByteArray.toList_eq _))).2];exact line_same h tb hO hn om_ s hs x a b d f hw (Dsk.it_of q0 rfl rfl) (Dsk.it_of q1 rfl rfl) (Dsk.it_of q2 rfl rfl) (Dsk.it_of q3 rfl rfl) (Dsk.it_of q4 rfl rfl) (Dsk.it_of q5 rfl rfl) (Dsk.it_of q6 rfl rfl) (Dsk.it_of q7 rfl rfl) (Dsk.it_of q8 rfl rfl) (Dsk.it_of q9 rfl rfl) (Dsk.it_of q10 rfl rfl) (Dsk.it_of q11 rfl rfl)
             case neg=>
              have q11:=iG.2 q11;by_cases q12:Dsk.isFrm x ms.length ⟨⟨#[115,117,114,101]⟩,⟨#[68,78]⟩,0⟩=true
              case pos=>
               have hl:ms.length=2:=Dsk.frm_len q12;obtain⟨a,b,rfl⟩:=Dsk.l2 hl;have F:Dsk.frms.find? (Dsk.isFrm x [a,b].length)=some ⟨⟨#[115,117,114,101]⟩,⟨#[68,78]⟩,0⟩:=Dsk.find_at (a:=[⟨⟨#[109,97,107,101]⟩,⟨#[68,78]⟩,1⟩,⟨⟨#[117,110,108,105,110,107]⟩,⟨#[68,78]⟩,3⟩,⟨⟨#[108,105,110,107]⟩,⟨#[68,78,69,77]⟩,2⟩,⟨⟨#[114,101,110,97,109,101]⟩,⟨#[68,78,69,77]⟩,4⟩,⟨⟨#[112,117,116]⟩,⟨#[68,78,80,84]⟩,5⟩,⟨⟨#[99,117,116]⟩,⟨#[68,78,80]⟩,6⟩,⟨⟨#[119,114,105,116,101]⟩,⟨#[66]⟩,7⟩,⟨⟨#[115,121,110,99]⟩,⟨#[]⟩,8⟩,⟨⟨#[99,114,97,115,104]⟩,⟨#[]⟩,9⟩,⟨⟨#[114,101,97,100]⟩,⟨#[68,78,80]⟩,0⟩,⟨⟨#[108,105,115,116]⟩,⟨#[68]⟩,0⟩,⟨⟨#[115,97,109,101]⟩,⟨#[68,78,69,77]⟩,0⟩]) rfl (by simp only[iJ,iA,false_implies,implies_true,and_true];exact⟨q0,q1,q2,q3,q4,q5,q6,q7,q8,q9,q10,q11⟩) q12;have M:Dsk.meant x [a,b]=some ⟨0,Dsk.num a,0,0,b,⟨#[]⟩,⟨#[]⟩⟩:=(Dsk.meant_at F rfl).trans rfl;rw[(Dsk.told_ask (S:=S) M rfl ((Dsk.frm_word q12).trans (ByteArray.toList_eq _))).1,(Dsk.told_ask (S:=S) M rfl ((Dsk.frm_word q12).trans (ByteArray.toList_eq _))).2];exact line_sure h tb hO hn om_ s hs x a b hw (Dsk.it_of q0 rfl rfl) (Dsk.it_of q1 rfl rfl) (Dsk.it_of q2 rfl rfl) (Dsk.it_of q3 rfl rfl) (Dsk.it_of q4 rfl rfl) (Dsk.it_of q5 rfl rfl) (Dsk.it_of q6 rfl rfl) (Dsk.it_of q7 rfl rfl) (Dsk.it_of q8 rfl rfl) (Dsk.it_of q9 rfl rfl) (Dsk.it_of q10 rfl rfl) (Dsk.it_of q11 rfl rfl) (Dsk.it_of q12 rfl rfl)
              case neg=>
               have q12:=iG.2 q12;by_cases q13:Dsk.isFrm x ms.length ⟨⟨#[100,105,115,107]⟩,⟨#[]⟩,0⟩=true
               case pos=>
                have hl:ms.length=0:=Dsk.frm_len q13;obtain rfl:=Dsk.l0 hl;have F:Dsk.frms.find? (Dsk.isFrm x [].length)=some ⟨⟨#[100,105,115,107]⟩,⟨#[]⟩,0⟩:=Dsk.find_at (a:=[⟨⟨#[109,97,107,101]⟩,⟨#[68,78]⟩,1⟩,⟨⟨#[117,110,108,105,110,107]⟩,⟨#[68,78]⟩,3⟩,⟨⟨#[108,105,110,107]⟩,⟨#[68,78,69,77]⟩,2⟩,⟨⟨#[114,101,110,97,109,101]⟩,⟨#[68,78,69,77]⟩,4⟩,⟨⟨#[112,117,116]⟩,⟨#[68,78,80,84]⟩,5⟩,⟨⟨#[99,117,116]⟩,⟨#[68,78,80]⟩,6⟩,⟨⟨#[119,114,105,116,101]⟩,⟨#[66]⟩,7⟩,⟨⟨#[115,121,110,99]⟩,⟨#[]⟩,8⟩,⟨⟨#[99,114,97,115,104]⟩,⟨#[]⟩,9⟩,⟨⟨#[114,101,97,100]⟩,⟨#[68,78,80]⟩,0⟩,⟨⟨#[108,105,115,116]⟩,⟨#[68]⟩,0⟩,⟨⟨#[115,97,109,101]⟩,⟨#[68,78,69,77]⟩,0⟩,⟨⟨#[115,117,114,101]⟩,⟨#[68,78]⟩,0⟩]) rfl (by simp only[iJ,iA,false_implies,implies_true,and_true];exact⟨q0,q1,q2,q3,q4,q5,q6,q7,q8,q9,q10,q11,q12⟩) q13;have M:Dsk.meant x []=some ⟨0,0,0,0,⟨#[]⟩,⟨#[]⟩,⟨#[]⟩⟩:=(Dsk.meant_at F rfl).trans rfl;rw[(Dsk.told_ask (S:=S) M rfl ((Dsk.frm_word q13).trans (ByteArray.toList_eq _))).1,(Dsk.told_ask (S:=S) M rfl ((Dsk.frm_word q13).trans (ByteArray.toList_eq _))).2];exact line_disk h tb hO hn om_ s hN hs x hw (Dsk.it_of q0 rfl rfl) (Dsk.it_of q1 rfl rfl) (Dsk.it_of q2 rfl rfl) (Dsk.it_of q3 rfl rfl) (Dsk.it_of q4 rfl rfl) (Dsk.it_of q5 rfl rfl) (Dsk.it_of q6 rfl rfl) (Dsk.it_of q7 rfl rfl) (Dsk.it_of q8 rfl rfl) (Dsk.it_of q9 rfl rfl) (Dsk.it_of q10 rfl rfl) (Dsk.it_of q11 rfl rfl) (Dsk.it_of q12 rfl rfl) (Dsk.it_of q13 rfl rfl)
               case neg=>
                have q13:=iG.2 q13;by_cases q14:Dsk.isFrm x ms.length ⟨⟨#[100,105,114,116,121]⟩,⟨#[]⟩,0⟩=true
                case pos=>
                 have hl:ms.length=0:=Dsk.frm_len q14;obtain rfl:=Dsk.l0 hl;have F:Dsk.frms.find? (Dsk.isFrm x [].length)=some ⟨⟨#[100,105,114,116,121]⟩,⟨#[]⟩,0⟩:=Dsk.find_at (a:=[⟨⟨#[109,97,107,101]⟩,⟨#[68,78]⟩,1⟩,⟨⟨#[117,110,108,105,110,107]⟩,⟨#[68,78]⟩,3⟩,⟨⟨#[108,105,110,107]⟩,⟨#[68,78,69,77]⟩,2⟩,⟨⟨#[114,101,110,97,109,101]⟩,⟨#[68,78,69,77]⟩,4⟩,⟨⟨#[112,117,116]⟩,⟨#[68,78,80,84]⟩,5⟩,⟨⟨#[99,117,116]⟩,⟨#[68,78,80]⟩,6⟩,⟨⟨#[119,114,105,116,101]⟩,⟨#[66]⟩,7⟩,⟨⟨#[115,121,110,99]⟩,⟨#[]⟩,8⟩,⟨⟨#[99,114,97,115,104]⟩,⟨#[]⟩,9⟩,⟨⟨#[114,101,97,100]⟩,⟨#[68,78,80]⟩,0⟩,⟨⟨#[108,105,115,116]⟩,⟨#[68]⟩,0⟩,⟨⟨#[115,97,109,101]⟩,⟨#[68,78,69,77]⟩,0⟩,⟨⟨#[115,117,114,101]⟩,⟨#[68,78]⟩,0⟩,⟨⟨#[100,105,115,107]⟩,⟨#[]⟩,0⟩]) rfl (by simp only[iJ,iA,false_implies,implies_true,and_true];exact⟨q0,q1,q2,q3,q4,q5,q6,q7,q8,q9,q10,q11,q12,q13⟩) q14;have M:Dsk.meant x []=some ⟨0,0,0,0,⟨#[]⟩,⟨#[]⟩,⟨#[]⟩⟩:=(Dsk.meant_at F rfl).trans rfl;rw[(Dsk.told_ask (S:=S) M rfl ((Dsk.frm_word q14).trans (ByteArray.toList_eq _))).1,(Dsk.told_ask (S:=S) M rfl ((Dsk.frm_word q14).trans (ByteArray.toList_eq _))).2];exact line_dirty h tb hO hn om_ s hs x hw (Dsk.it_of q0 rfl rfl) (Dsk.it_of q1 rfl rfl) (Dsk.it_of q2 rfl rfl) (Dsk.it_of q3 rfl rfl) (Dsk.it_of q4 rfl rfl) (Dsk.it_of q5 rfl rfl) (Dsk.it_of q6 rfl rfl) (Dsk.it_of q7 rfl rfl) (Dsk.it_of q8 rfl rfl) (Dsk.it_of q9 rfl rfl) (Dsk.it_of q10 rfl rfl) (Dsk.it_of q11 rfl rfl) (Dsk.it_of q12 rfl rfl) (Dsk.it_of q13 rfl rfl) (Dsk.it_of q14 rfl rfl)
                case neg=>
                 have q14:=iG.2 q14;by_cases q15:Dsk.isFrm x ms.length ⟨⟨#[108,111,115,116]⟩,⟨#[]⟩,0⟩=true
                 case pos=>
                  have hl:ms.length=0:=Dsk.frm_len q15;obtain rfl:=Dsk.l0 hl;have F:Dsk.frms.find? (Dsk.isFrm x [].length)=some ⟨⟨#[108,111,115,116]⟩,⟨#[]⟩,0⟩:=Dsk.find_at (a:=[⟨⟨#[109,97,107,101]⟩,⟨#[68,78]⟩,1⟩,⟨⟨#[117,110,108,105,110,107]⟩,⟨#[68,78]⟩,3⟩,⟨⟨#[108,105,110,107]⟩,⟨#[68,78,69,77]⟩,2⟩,⟨⟨#[114,101,110,97,109,101]⟩,⟨#[68,78,69,77]⟩,4⟩,⟨⟨#[112,117,116]⟩,⟨#[68,78,80,84]⟩,5⟩,⟨⟨#[99,117,116]⟩,⟨#[68,78,80]⟩,6⟩,⟨⟨#[119,114,105,116,101]⟩,⟨#[66]⟩,7⟩,⟨⟨#[115,121,110,99]⟩,⟨#[]⟩,8⟩,⟨⟨#[99,114,97,115,104]⟩,⟨#[]⟩,9⟩,⟨⟨#[114,101,97,100]⟩,⟨#[68,78,80]⟩,0⟩,⟨⟨#[108,105,115,116]⟩,⟨#[68]⟩,0⟩,⟨⟨#[115,97,109,101]⟩,⟨#[68,78,69,77]⟩,0⟩,⟨⟨#[115,117,114,101]⟩,⟨#[68,78]⟩,0⟩,⟨⟨#[100,105,115,107]⟩,⟨#[]⟩,0⟩,⟨⟨#[100,105,114,116,121]⟩,⟨#[]⟩,0⟩]) rfl (by simp only[iJ,iA,false_implies,implies_true,and_true];exact⟨q0,q1,q2,q3,q4,q5,q6,q7,q8,q9,q10,q11,q12,q13,q14⟩) q15;have M:Dsk.meant x []=some ⟨0,0,0,0,⟨#[]⟩,⟨#[]⟩,⟨#[]⟩⟩:=(Dsk.meant_at F rfl).trans rfl;rw[(Dsk.told_ask (S:=S) M rfl ((Dsk.frm_word q15).trans (ByteArray.toList_eq _))).1,(Dsk.told_ask (S:=S) M rfl ((Dsk.frm_word q15).trans (ByteArray.toList_eq _))).2];exact line_lost h tb hO hn om_ s hN hs x hw (Dsk.it_of q0 rfl rfl) (Dsk.it_of q1 rfl rfl) (Dsk.it_of q2 rfl rfl) (Dsk.it_of q3 rfl rfl) (Dsk.it_of q4 rfl rfl) (Dsk.it_of q5 rfl rfl) (Dsk.it_of q6 rfl rfl) (Dsk.it_of q7 rfl rfl) (Dsk.it_of q8 rfl rfl) (Dsk.it_of q9 rfl rfl) (Dsk.it_of q10 rfl rfl) (Dsk.it_of q11 rfl rfl) (Dsk.it_of q12 rfl rfl) (Dsk.it_of q13 rfl rfl) (Dsk.it_of q14 rfl rfl) (Dsk.it_of q15 rfl rfl)
                 case neg=>
                  have q15:=iG.2 q15;have M:Dsk.meant x ms=none:=by
                   unfold Dsk.meant;rw[Dsk.find_none (by unfold Dsk.frms;simp only[iJ,iA,false_implies,implies_true,and_true];exact⟨q0,q1,q2,q3,q4,q5,q6,q7,q8,q9,q10,q11,q12,q13,q14,q15⟩)]
                  rw[(Dsk.told_what (S:=S) M).1,(Dsk.told_what (S:=S) M).2];have hm2:ms.length≤100000:=by have:=Dsk.words_few s;rw[hw,ig]at this;omega
                  exact line_what h tb om_ s hs x ms ms.length rfl hm2 hw (Dsk.it_of q0 rfl rfl) (Dsk.it_of q1 rfl rfl) (Dsk.it_of q2 rfl rfl) (Dsk.it_of q3 rfl rfl) (Dsk.it_of q4 rfl rfl) (Dsk.it_of q5 rfl rfl) (Dsk.it_of q6 rfl rfl) (Dsk.it_of q7 rfl rfl) (Dsk.it_of q8 rfl rfl) (Dsk.it_of q9 rfl rfl) (Dsk.it_of q10 rfl rfl) (Dsk.it_of q11 rfl rfl) (Dsk.it_of q12 rfl rfl) (Dsk.it_of q13 rfl rfl) (Dsk.it_of q14 rfl rfl) (Dsk.it_of q15 rfl rfl)
end
end
section
open Go.RowKit
open Idl (Stp chk stpA strs)
theorem Dsk.tells_take {S:Lv}{L:List ByteArray}{k:Nat}{s:ByteArray}(h:L[k]? =some s):Dsk.tells S (L.take (k+1))=Dsk.tells S (L.take k)++Dsk.told (Dsk.nexts S (L.take k)) (Dsk.words s):=by
 rw[List.take_add_one,h,Dsk.tells_append];show _++(_++[])=_;rw[iM]
theorem Dsk.tells_len {S:Lv}{n:Nat}(hO:S.Ok n)(hN:S.Neat):∀(L:List ByteArray),n+L.length≤1000000→(Dsk.tells S L).length≤L.length*16000000:=by
 intro L;induction L generalizing S n with
 |nil=>intro _;exact gY _
 |cons s L ih=>
  intro hn;rw[ig]at hn;show(Dsk.told S (Dsk.words s)++Dsk.tells (Dsk.next S (Dsk.words s)) L).length≤_;have h1:=told_len hO om_ hN (Dsk.words s);have h2:=ih (Dsk.next_ok hO (Dsk.words s)) (Dsk.next_neat hO om_ hN (Dsk.words s)) om_;rw[gZ,ig];omega
section
variable {w W W':World}{gd gb:Nat}{S:Lv}{l:List UInt8}
theorem rDo_any (h:Rd w gd gb S l W)(tb:aW w)(L:List ByteArray)(hL:L.length≤150)(hs:∀s∈L,s.size≤50000){n:Nat}(hO:S.Ok n)(hN:S.Neat)(hn:n+150≤1000000)(v:Value)(hv:Wds w v L):
 Calls Tryz.prog 11 #[.pointer (some ⟨gd,0,none⟩),v] W fun e w'=>e=.returned (.string (mkb (Dsk.tells S L)))∧Rd w gd gb (Dsk.nexts S L) (Dsk.tells S L) w'∧Rc gd gb W w':=by
 obtain⟨a,c,rfl,hc⟩:=hv;have HC:=ae hc;have P0:=ae (h.put []);have c0:=h.cell0;have hfz:=Lib.frozen_of_heap h.row 0;have LN:=ae (fun(i:Nat)(s:ByteArray)(hi:L[i]? =some s)(V:World)(hr:Rd w gd gb (Dsk.nexts S (L.take i)) (Dsk.tells S (L.take i)) V)=>by
  have hlt:=(ip.1 hi).1;have hl:=Dsk.tells_len hO hN (L.take i) (by rw[iI];omega);rw[iI,Nat.min_eq_left om_]at hl;have ok:=Dsk.nexts_ok (L:=L.take i) hO;rw[iI,Nat.min_eq_left om_]at ok;have:=rLine_any hr tb ok (Dsk.nexts_neat hO hN (by rw[iI];omega)) om_ om_ s (hs s (List.mem_of_getElem? hi));rw[←Dsk.nexts_take hi,←Dsk.tells_take hi]at this;exact this)
 clear h tb hs hO hN hn hc;go_enter Tryz.func11,Tryz.ntmps11;go_wp2_with fail;go_loopw [5] (fun t wr=>∃i:Nat,i≤L.length∧t=.int .i64 i∧Hid (Rd w gd gb (Dsk.nexts S (L.take i)) (Dsk.tells S (L.take i)) wr)∧Hid (Rc gd gb W wr)) (fun t _=>L.length-(intOf t).toNat)
 case atStart=>exact⟨0,hZ _,rfl,ae (ac P0).1,ae (ac P0).2⟩
 case round=>
  clear P0 c0 hfz;obtain⟨i,hi,rfl,R1,C1⟩:=hrel;by_cases hlt:i<L.length
  case pos=>
   have hz:(i:Int)<(L.length:Int):=om_;obtain⟨s,hsi⟩:∃s,L[i]? =some s:=⟨_,iB hlt⟩;obtain⟨g,o,rfl,hcl⟩:=ac HC i s hsi;have hcw:=aq (ac R1).bel hcl;have O:=ae (ac LN i s hsi wr (ac R1));clear hcl LN hsi;go_wp2_with fail;refine(ac O).mono ?_;rintro e w2 ⟨rfl,r2,k2⟩;have R2:=ae r2;have C2:=ae (Rc.trans (ac C1) k2);clear r2 k2 O hcw;go_wp2_with fail;go_roundw
   case rel=>exact⟨i+1,om_,by go_num,R2,C2⟩
   case measure=>simp[intOf];omega
  case neg=>
   have hz:¬(i:Int)<(L.length:Int):=om_;obtain rfl:i=L.length:=om_;rw[List.take_length]at R1;have c1:=(ac R1).cell0;clear LN HC;go_wp2_with fail;go_ret;exact⟨rfl,ac R1,ac C1⟩
end
end
section
open Go.RowKit
open Idl (Stp chk stpA strs)
section
variable {w W W':World}{B bd bl bf bc gd gb:Nat}{S:Lv}{l:List UInt8}
structure Apr (bd bl bf bc gd gb:Nat):Prop where
 d:gd≠bd∧gd≠bl∧gd≠bf∧gd≠bc
 b:gb≠bd∧gb≠bl∧gb≠bf∧gb≠bc
theorem apr_of (h:Dk w B bd bl bf bc S [] W){T:Lv}(k:Rd w gd gb T l W):Apr bd bl bf bc gd gb:=by
 obtain⟨ds,hd⟩:=h.row;obtain⟨a,b,f⟩:=h.lo.fo.it;obtain⟨cs,es,hb,_⟩:=k.bed;exact⟨⟨aH k.row hd dc_,aH k.row h.lo.root dc_,aH k.row f.root dc_,aH k.row f.row dc_⟩,
  ⟨aH hb hd dc_,aH hb h.lo.root dc_,aH hb f.root dc_,aH hb f.row dc_⟩⟩
theorem Rd.dd (k:Rd w gd gb S l W)(a:Apr bd bl bf bc gd gb){bf' bc':Nat}(d:Dd bd bl bf bc bf' bc' W W')(hb:Below w.heap.size w W'):Rd w gd gb S l W':=
 ⟨(d.old _ k.lt a.d.1 a.d.2.1 a.d.2.2.1 a.d.2.2.2).trans k.row,k.bed.keep (d.old _ k.bed.lt a.b.1 a.b.2.1 a.b.2.2.1 a.b.2.2.2),hb,k.d0,k.b0⟩
theorem Dk.rc (h:Dk w B bd bl bf bc S [] W)(a:Apr bd bl bf bc gd gb)(c:Rc gd gb W W')(hb:Below w.heap.size w W'):Dk w B bd bl bf bc S [] W':=by
 obtain⟨p,v,hp,h1,h2,h3⟩:=h.it;obtain rfl:=h3 rfl;obtain⟨cs,ds,f⟩:=h.lo.fo.it;have old:∀j,j<W.heap.size→gd≠j→gb≠j→W'.heap[j]? =W.heap[j]? :=fun j hj n1 n2=>c.block j hj (fun z=>by rcases z with z|z;exact n1 z.symm;exact n2 z.symm)
 exact⟨⟨⟨⟨cs,ds,f.keep (old _ f.flt a.d.2.2.1 a.b.2.2.1) (old _ f.clt a.d.2.2.2 a.b.2.2.2)⟩,hb,h.lo.fo.f0,h.lo.fo.c0⟩,(old _ h.lo.lt a.d.2.1 a.b.2.1).trans h.lo.root,h.lo.l0,h.lo.nf,h.lo.nc⟩,
  ⟨p,_,hp,(old _ h.lt a.d.1 a.b.1).trans h1,World.ownsRow_nil _ _ _ _,fun _=>rfl⟩,h.d0,h.w0,h_ h.b0 c.size⟩
theorem dd_row (h:Dk w B bd bl bf bc S [] W){bf' bc':Nat}(d:Dd bd bl bf bc bf' bc' W W'){g:Nat}{cs:Array Value}{t:TypeId}(r:W.heap[g]? =some (.cells cs t))(h1:t≠46)(h2:t≠65)(h3:t≠114)(h4:t≠141):W'.heap[g]? =some (.cells cs t):=by
 obtain⟨ds,hd⟩:=h.row;obtain⟨a,b,f⟩:=h.lo.fo.it;rw[d.old _ (gW.1 r).1 (aH r hd h1) (aH r h.lo.root h2) (aH r f.root h3) (aH r f.row h4)];exact r
theorem rc_row (k:Rd w gd gb S l W)(c:Rc gd gb W W'){g:Nat}{cs:Array Value}{t:TypeId}(r:W.heap[g]? =some (.cells cs t))(h1:t≠50)(h2:t≠81):W'.heap[g]? =some (.cells cs t):=by
 obtain⟨bs,es,hb,_⟩:=k.bed;rw[c.block _ (gW.1 r).1 (fun z=>by rcases z with z|z;exact aH r k.row h1 z;exact aH r hb h2 z)];exact r
end
theorem neqFlt (c a:Int)(w:World):(binOp .neq 31 (.agg #[.int .i64 c,.int .i64 a]) (.agg #[.int .i64 c,.int .i64 a])).run Tryz.prog w=.ok (.bool false) w:=by
 go_simp
theorem Dsk.fine_doT {S:Lv}{L:List ByteArray}(h:Dsk.fine L=true):Dsk.doT S L=Dsk.tells S L∧Dsk.doN S L=Dsk.nexts S L∧L.length≤150:=by
 refine⟨if_pos h,if_pos h,?_⟩;unfold Dsk.fine Dsk.many at h;simp at h;omega
theorem Dsk.torn_doT {S:Lv}{L:List ByteArray}(h:Dsk.fine L=false):Dsk.doT S L=[]∧Dsk.doN S L=S:=by
 unfold Dsk.doT Dsk.doN;rw[h];exact⟨rfl,rfl⟩
theorem deskDoes_any (La Lb:List ByteArray)(hLa:La.length≤maxLen)(hLb:Lb.length≤maxLen)(hsa:∀s∈La,s.size≤140737488355328)(hsb:∀s∈Lb,s.size≤140737488355328)(aa ab:Option Addr)(ca cb:Nat)(w:World)(hva:Wds w (.slice aa La.length ca) La)(hvb:Wds w (.slice ab Lb.length cb) Lb)(tb:aW w):
 Calls Tryz.prog 3 #[.slice aa La.length ca,.slice ab Lb.length cb] w fun e w'=>e=.returned (.bool true)∧Below w.heap.size w w':=by
 have D0:=ae (gV w tb);have HVa:=ae hva;have HVb:=ae hvb;have TB:=ae tb;have SLa:=ae (fun V (b:Below w.heap.size w V)=>slow_any La hLa hsa _ V (hva.below b));have SLb:=ae (fun V (b:Below w.heap.size w V)=>slow_any Lb hLb hsb _ V (hvb.below b));clear tb hsa hsb hva hvb;have MLa:=ae hLa;have MLb:=ae hLb;unfold maxLen at hLa hLb;go_enter Tryz.func3,Tryz.ntmps3;go_wp2_with fail;refine(ac D0).mono ?_;rintro e w1 ⟨rfl,b1⟩;have B1:=ae b1;clear b1 D0;by_cases hma:200<La.length
 case pos=>
  have hz:decide ((200:Int)<(La.length:Int))=true:=by simp;omega
  clear hma;go_wp2_with fail;go_ret;exact⟨rfl,ac B1⟩
 have hza:decide ((200:Int)<(La.length:Int))=false:=by simp;omega
 by_cases hmb:200<Lb.length
 case pos=>
  have hz:decide ((200:Int)<(Lb.length:Int))=true:=by simp;omega
  clear hmb;go_wp2_with fail;go_ret;exact⟨rfl,ac B1⟩
 have hzb:decide ((200:Int)<(Lb.length:Int))=false:=by simp;omega
 go_wp2_with fail;refine(ac SLa w1 (ac B1)).mono ?_;rintro e w2 ⟨⟨b,rfl,hb⟩,e9⟩;rw[e9];clear e9 w2 SLa;have HB:=ae hb;clear hb;cases b
 case true=>
  go_wp2_with fail;go_ret;exact⟨rfl,ac B1⟩
 have SHa:=ae (ac HB rfl);clear HB;go_wp2_with fail;refine(ac SLb w1 (ac B1)).mono ?_;rintro e w2 ⟨⟨b,rfl,hb⟩,e9⟩;rw[e9];clear e9 w2 SLb;have HB:=ae hb;clear hb;cases b
 case true=>
  go_wp2_with fail;go_ret;exact⟨rfl,ac B1⟩
 have SHb:=ae (ac HB rfl);clear HB;have N1:=ae (dNew_any w (ac B1));go_wp2_with fail;refine(ac N1).mono ?_;rintro e w2 ⟨bd,bl,bf0,bc0,rfl,_,_,_,_,h2,b2⟩;have N2:=ae (rNew_any w ((ac B1).trans (b2.mono (ac B1).size)));have H2:=ae h2;clear N1 h2 b2;go_wp2_with fail;refine(ac N2).mono ?_;rintro e w3 ⟨gd,gb,rfl,_,_,h3,b3⟩;have b4:Below w3.heap.size w3 (w3.alloc (.cells #[.slice aa La.length ca,.slice ab Lb.length cb] 22)):=(gX _ w3).alloc (gY _) _;have HD:=ae (((ac H2).call b3).call b4);have HE:=ae (h3.call b4);have RL:=ae (iV w3 (.cells #[.slice aa La.length ca,.slice ab Lb.length cb] 22));clear H2 h3 b3 b4 N2;go_wp2_with fail;generalize w3.heap.size=gl at*;go_loopw [8] (fun t wr=>∃(i bf bc:Nat)(S:Lv)(l:List UInt8),i≤2∧t=.int .i64 i∧Hid (Dk w w.heap.size bd bl bf bc S [] wr)∧Hid (Rd w gd gb S l wr)∧Hid (wr.heap[gl]? =some (.cells #[.slice aa La.length ca,.slice ab Lb.length cb] 22))∧Hid (S.Ok (150*i))∧Hid S.Neat) (fun t _=>2-(intOf t).toNat)
 case atStart=>exact⟨0,bf0,bc0,Lv.new,[],hZ _,rfl,HD,HE,RL,ae Lv.Ok.start,ae Lv.Neat.start⟩
 case round=>
  clear HD HE RL;obtain⟨i,bf,bc,S,l,hi,rfl,HD,HE,RL,HO,HN⟩:=hrel;by_cases hlt:i<2
  case neg=>
   have hz:¬(i:Int)<2:=om_;have BB:=ae (ac HE).bel;go_wp2_with fail;go_ret;exact⟨rfl,ac BB⟩
  case pos=>
   have hz:(i:Int)<2:=om_;obtain⟨L,a,c,hcl,hv,hML,hSH⟩:∃(L:List ByteArray)(a:Option Addr)(c:Nat),(#[.slice aa La.length ca,.slice ab Lb.length cb]:Array Value)[i]? =some (.slice a L.length c)∧Wds w (.slice a L.length c) L∧L.length≤maxLen∧∀s∈L,s.size≤50000:=by
    have hi2:i=0∨i=1:=om_;rcases hi2 with rfl|rfl
    ·exact⟨La,aa,ca,rfl,ac HVa,ac MLa,ac SHa⟩
    ·exact⟨Lb,ab,cb,rfl,ac HVb,ac MLb,ac SHb⟩
   have CL:=ae hcl;have HV:=ae hv;have ML:=ae hML;have SH:=ae hSH;have hcw:wr.cell? ⟨gl,i,none⟩=some (.slice a L.length c):=by rw[iW _ _ _ _ _ _ (ac RL)];exact hcl
   clear hcl hv hML hSH;have hO:=ac HO;have DO:=ae (do_any (ac HD) (ac TB) L (ac ML) (ac SH) hO (ac HN) om_ _ (ac HV));have OK2:=ae (show(Dsk.doN S L).Ok (150*(i+1))by
    by_cases hf:Dsk.fine L=true
    ·have h1:=Dsk.doN_ok hO L;have h2:=(Dsk.fine_doT (S:=S) hf).2.2;exact Dsk.Ok.more h1 om_
    ·rw[(Dsk.torn_doT (S:=S) (iG.2 hf)).2];exact Dsk.Ok.more hO om_)
   have NE2:=ae (show(Dsk.doN S L).Neat by
    by_cases hf:Dsk.fine L=true
    ·exact Dsk.doN_neat hO (ac HN) L (by have:=(Dsk.fine_doT (S:=S) hf).2.2;omega)
    ·rw[(Dsk.torn_doT (S:=S) (iG.2 hf)).2];exact ac HN)
   have FT:=ae (Dsk.fine_doT (S:=S) (L:=L));have TT:=ae (Dsk.torn_doT (S:=S) (L:=L));have LF:=ae (fun(V:World)(hb:Below w.heap.size w V)=>gv L (ac ML) (ac SH) _ V ((ac HV).below hb));have RDO:=ae (fun(V:World)(hr:Rd w gd gb S l V)(h150:L.length≤150)=>rDo_any hr (ac TB) L h150 (ac SH) hO (ac HN) om_ _ (ac HV));clear hO;unfold fltA at DO LF;generalize Dsk.doT S L=tx at*;generalize Dsk.doN S L=S2 at*;generalize hc1:Dsk.doC L=cd at*;generalize Dsk.doAt L=at1 at*;have C1:=ae (show cd=0↔Dsk.fine L=true by rw[←hc1];exact Dsk.doC_zero _);clear hc1;go_wp2_with fail;refine(ac DO).mono ?_;rintro e wA ⟨rfl,bf',bc',hA,dA⟩;have RDA:=ae ((ac HE).dd (apr_of (ac HD) (ac HE)) dA hA.lo.bel);have RLA:=ae (dd_row (ac HD) dA (ac RL) dc_ dc_ dc_ dc_);have b5:Below wA.heap.size wA (wA.alloc (.cells #[.int .i64 cd,.int .i64 at1] 31)):=(gX _ wA).alloc (gY _) _;have HD1:=ae ((hA.rebase (C:=w.heap.size) (gY _) hA.lo.bel.size).call b5);have HE1:=ae ((ac RDA).call b5);have RL1:=ae ((b5.block _ (gW.1 (ac RLA)).1).trans (ac RLA));have F1:=ae (iV wA (.cells #[.int .i64 cd,.int .i64 at1] 31));have LF1:=ae (ac LF _ (ac HE1).bel);have hcw1:(wA.alloc (.cells #[.int .i64 cd,.int .i64 at1] 31)).cell? ⟨gl,i,none⟩=some (.slice a L.length c):=by rw[iW _ _ _ _ _ _ (ac RL1)];exact ac CL
   clear hA dA RDA RLA b5 DO LF HD HE RL hcw;go_wp2_with fail;refine(ac LF1).mono ?_;rintro e wB ⟨rfl,b6⟩;have F2:=ae ((b6.block _ (gW.1 (ac F1)).1).trans (ac F1));have RL2:=ae ((b6.block _ (gW.1 (ac RL1)).1).trans (ac RL1));have b7:Below wB.heap.size wB (wB.alloc (.cells #[.int .i64 cd,.int .i64 at1] 31)):=(gX _ wB).alloc (gY _) _;have HD2:=ae (((ac HD1).call b6).call b7);have HE2:=ae (((ac HE1).call b6).call b7);have RL3:=ae ((b7.block _ (gW.1 (ac RL2)).1).trans (ac RL2));have F3:=ae ((b7.block _ (gW.1 (ac F2)).1).trans (ac F2));have F4:=ae (iV wB (.cells #[.int .i64 cd,.int .i64 at1] 31));clear b6 b7 LF1 HD1 HE1 RL1 RL2 F1 F2 hcw1;go_upto_region 13 with fail
   try simp only[Act.put]
   generalize wB.heap.size=g11 at*;generalize wB.alloc (.cells #[.int .i64 cd,.int .i64 at1] 31)=X at*;generalize wA.heap.size=g10 at*;have q4:X.cell? ⟨g11,0,none⟩=some (.int .i64 cd):=by rw[iW _ _ _ _ _ _ (ac F4)];rfl
   have hcw:X.cell? ⟨gl,i,none⟩=some (.slice a L.length c):=by rw[iW _ _ _ _ _ _ (ac RL3)];exact ac CL
   have NQ:=neqFlt cd at1;by_cases hc0:cd=0
   case neg=>
    have z0:(cd !=0)=true:=by simpa using hc0
    have z1:(cd==0)=false:=by simpa using hc0
    have hf:Dsk.fine L=false:=iG.2 (fun z=>hc0 ((ac C1).2 z));obtain⟨e1,e2⟩:=ac TT hf;subst e1;subst e2;clear hc0 hf FT TT RDO C1;go_wp2_with(first|(have hx:=ac F3;refine wpList_load_row rfl 31 _ rfl g10 rfl 31 #[.int .i64 cd,.int .i64 at1] (0,0) _ hx bn rfl aT ?_;clear hx F3)|(have hx:=ac F4;refine wpList_load_row rfl 31 _ rfl g11 rfl 31 #[.int .i64 cd,.int .i64 at1] (0,0) _ hx bn rfl aT ?_;clear hx F4)|(rw[NQ]));go_roundw
    case rel=>exact⟨i+1,bf',bc',_,l,om_,by go_num,HD2,HE2,RL3,OK2,NE2⟩
    case measure=>simp[intOf];omega
   case pos=>
    subst hc0;obtain⟨e1,e2,h150⟩:=ac FT ((ac C1).1 rfl);subst e1;subst e2;have RD:=ae (ac RDO X (ac HE2) h150);generalize Dsk.tells S L=tx at*;clear FT TT RDO C1 h150;go_wp2_with(first|(have hx:=ac F3;refine wpList_load_row rfl 31 _ rfl g10 rfl 31 #[.int .i64 0,.int .i64 at1] (0,0) _ hx bn rfl aT ?_;clear hx F3)|(have hx:=ac F4;refine wpList_load_row rfl 31 _ rfl g11 rfl 31 #[.int .i64 0,.int .i64 at1] (0,0) _ hx bn rfl aT ?_;clear hx F4)|(rw[NQ]));refine(ac RD).mono ?_;rintro e wC ⟨rfl,rC,cC⟩;have HE3:=ae rC;have HD3:=ae ((ac HD2).rc (apr_of (ac HD2) (ac HE2)) cC rC.bel);have RL4:=ae (rc_row (ac HE2) cC (ac RL3) dc_ dc_);clear rC cC RD HE2 HD2 RL3 hcw q4;go_wp2_with fail;go_roundw
    case rel=>exact⟨i+1,bf',bc',_,_,om_,by go_num,HD3,HE3,RL4,OK2,NE2⟩
    case measure=>simp[intOf];omega
end
end Go.Proofs.YtfpfpnhpbnnmfadGreatDoor
