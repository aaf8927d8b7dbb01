import Derived.Test.YtfpfpnhpbnnmfadGreatDoorXaa
import Derived.Test.YtfpfpnhpbnnmfadGreatDoorXbl
set_option maxHeartbeats 40000000
set_option maxRecDepth 100000
set_option linter.unusedVariables false
namespace Go.Proofs.YtfpfpnhpbnnmfadGreatDoor
section
open Go.RowKit
open Idl (Stp chk stpA)
section
variable {w W W':World}{gd gb:Nat}{S:Lv}{l:List UInt8}
theorem line_what (h:Rd w gd gb S l W)(tb:aW w)(hlen:l.length+100≤140737488355328)(s:ByteArray)(hs:s.size≤50000)(x:ByteArray)(ms:List ByteArray)(m:Nat)(hm:ms.length=m)(hm2:m≤100000)(hw:Dsk.words s=x::ms)(q0:Dsk.isIt x (m+1) ⟨#[109,97,107,101]⟩ 2=false)(q1:Dsk.isIt x (m+1) ⟨#[117,110,108,105,110,107]⟩ 2=false)(q2:Dsk.isIt x (m+1) ⟨#[108,105,110,107]⟩ 4=false)(q3:Dsk.isIt x (m+1) ⟨#[114,101,110,97,109,101]⟩ 4=false)(q4:Dsk.isIt x (m+1) ⟨#[112,117,116]⟩ 4=false)(q5:Dsk.isIt x (m+1) ⟨#[99,117,116]⟩ 3=false)(q6:Dsk.isIt x (m+1) ⟨#[119,114,105,116,101]⟩ 1=false)(q7:Dsk.isIt x (m+1) ⟨#[115,121,110,99]⟩ 0=false)(q8:Dsk.isIt x (m+1) ⟨#[99,114,97,115,104]⟩ 0=false)(q9:Dsk.isIt x (m+1) ⟨#[114,101,97,100]⟩ 3=false)(q10:Dsk.isIt x (m+1) ⟨#[108,105,115,116]⟩ 1=false)(q11:Dsk.isIt x (m+1) ⟨#[115,97,109,101]⟩ 4=false)(q12:Dsk.isIt x (m+1) ⟨#[115,117,114,101]⟩ 2=false)(q13:Dsk.isIt x (m+1) ⟨#[100,105,115,107]⟩ 0=false)(q14:Dsk.isIt x (m+1) ⟨#[100,105,114,116,121]⟩ 0=false)(q15:Dsk.isIt x (m+1) ⟨#[108,111,115,116]⟩ 0=false):
 Calls Tryz.prog 23 #[.pointer (some ⟨gd,0,none⟩),.string s] W fun e w'=>e=.returned (.tuple #[])∧Rd w gd gb S (l++Txt.line [Dsk.wWhat]) w'∧Rc gd gb W w':=by
 have WD:=ae (aK s om_ (W.alloc (.cells #[.pointer (some ⟨gd,0,none⟩)] 27)));have hsz:(W.alloc (.cells #[.pointer (some ⟨gd,0,none⟩)] 27)).heap.size=W.heap.size+1:=sp_;rw[hsz,hw]at WD;have ST:=ae (fun(w1:World)(v:Value)=>Ll.start h (w1:=w1) (v:=v) (ws:=x::ms) sp_);have eg:∀args w,(callFunc 32 args).run Tryz.prog w=.ok (.enter 32 args) w:=enters_of Tryz.func32 kr_ rfl;have ey:∀args w,(callFunc 33 args).run Tryz.prog w=.ok (.enter 33 args) w:=enters_of Tryz.func33 kr_ rfl;have OS:=ae (fun(V:World)(hv:Rd w gd gb S l V)=>bS hv Dsk.wWhat (by show _+4+10≤_;omega));unfold Dsk.wWhat at OS;clear tb hlen;clear h hw hsz;go_enter Tryz.func23,Tryz.ntmps23;go_wp2_with fail;refine(ac WD).mono ?_;rintro e w1 ⟨v,rfl,ow,b1⟩;obtain⟨A,c,ev,hl,hc⟩:=ac ST w1 v ow b1;rw[ig,hm]at ev hl hc;subst ev;obtain⟨w2,hw2⟩:∃w2,w2=w1.alloc (.cells #[.slice (some ⟨A,0,none⟩) (m+1) c] 22):=⟨_,rfl⟩;replace hl:Ll w gd gb W.heap.size w1.heap.size A c (x::ms) S l w2:=by rw[hw2];exact hl
 replace hc:Rc gd gb W w2:=by rw[hw2];exact hc
 have HL:=ae hl;have HC:=ae hc;have HW:=ae hw2;have IS:=ae (fun(u:ByteArray)(k:Int) hk=>bE x u k hk w1.heap.size A (m+1) c om_ om_ w2 (by have:=hl.lf.c4;rw[ig,hm]at this;exact this) (hl.lf.cw 0 x rfl));have c4:w2.cell? ⟨w1.heap.size,0,none⟩=some (.slice (some ⟨A,0,none⟩) (m+1) c):=by have:=hl.lf.c4;rw[ig,hm]at this;exact this
 have c2:=hl.lf.c2;clear ow b1 hl hc WD ST hw2;go_wp2_with fail;rw[←ac HW];refine(ac IS _ _ om_).mono ?_;rintro e w0 ⟨rfl,e9⟩;rw[e9];clear e9 w0;clear hm;go_wp2_with(go_at_call 32;refine(ac IS _ _ om_).mono ?_;rintro e w0 ⟨rfl,e9⟩;rw[e9];clear e9 w0);refine(ac OS _ (ac HL).rd).mono ?_;rintro e u ⟨rfl,hr,hc⟩;have RU:=ae (And.intro hr (Rc.trans (ac HC) hc));clear hr hc;go_wp2_with fail;go_end0;exact⟨rfl,ac RU⟩
end
end
end Go.Proofs.YtfpfpnhpbnnmfadGreatDoor
