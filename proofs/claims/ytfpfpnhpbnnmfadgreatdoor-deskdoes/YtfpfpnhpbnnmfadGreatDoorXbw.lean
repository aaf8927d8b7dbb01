import Derived.Test.YtfpfpnhpbnnmfadGreatDoorXaa
import Derived.Test.YtfpfpnhpbnnmfadGreatDoorXaq
import Derived.Test.YtfpfpnhpbnnmfadGreatDoorXbl
set_option maxHeartbeats 40000000
set_option maxRecDepth 100000
set_option linter.unusedVariables false
namespace Go.Proofs.YtfpfpnhpbnnmfadGreatDoor
section
open Go.RowKit
open Idl (Stp chk stpA)
section
variable {w W W':World}{gd gb:Nat}{S:Lv}{l:List UInt8}
theorem gp {W:World}{B0:Nat}{ws:List ByteArray}{v:Value}(hv:W.ownsRow B0 9 1 v ws.length (Idl.strs ws)):∃a c,v=.slice a ws.length c∧∀(i:Nat) x,ws[i]? =some x→∃g,a=some ⟨g,0,none⟩∧W.cell? ⟨g,i,none⟩=some (.string x):=by
 rcases hv.2 with⟨h,hz⟩|⟨g,cap,cur,h,_,hg,_⟩
 ·exact⟨none,0,by rw[h,hz],fun i n e=>by have:=(ip.1 e).1;omega⟩
 ·refine⟨some ⟨g,0,none⟩,cap,h,fun i n e=>⟨g,rfl,?_⟩⟩;have hlt:=(ip.1 e).1;rw[h]at hv;rw[hv.cellAt i om_];simp[Idl.strs,e]
theorem line_list (h:Rd w gd gb S l W)(tb:aW w){n:Nat}(hO:S.Ok n)(hn:n≤1000000)(hlen:l.length+1000≤140737488355328)(s:ByteArray)(hs:s.size≤50000)(x a:ByteArray)(hw:Dsk.words s=[x,a])(q0:Dsk.isIt x 2 ⟨#[109,97,107,101]⟩ 2=false)(q1:Dsk.isIt x 2 ⟨#[117,110,108,105,110,107]⟩ 2=false)(q2:Dsk.isIt x 2 ⟨#[108,105,110,107]⟩ 4=false)(q3:Dsk.isIt x 2 ⟨#[114,101,110,97,109,101]⟩ 4=false)(q4:Dsk.isIt x 2 ⟨#[112,117,116]⟩ 4=false)(q5:Dsk.isIt x 2 ⟨#[99,117,116]⟩ 3=false)(q6:Dsk.isIt x 2 ⟨#[119,114,105,116,101]⟩ 1=false)(q7:Dsk.isIt x 2 ⟨#[115,121,110,99]⟩ 0=false)(q8:Dsk.isIt x 2 ⟨#[99,114,97,115,104]⟩ 0=false)(q9:Dsk.isIt x 2 ⟨#[114,101,97,100]⟩ 3=false)(q10:Dsk.isIt x 2 ⟨#[108,105,115,116]⟩ 1=true):
 Calls Tryz.prog 23 #[.pointer (some ⟨gd,0,none⟩),.string s] W fun e w'=>e=.returned (.tuple #[])∧Rd w gd gb S (l++Txt.line (Dsk.wNames::(Img.snames S.now (Dsk.num a)).map (·.toList))) w'∧Rc gd gb W w':=by
 have WD:=ae (aK s om_ (W.alloc (.cells #[.pointer (some ⟨gd,0,none⟩)] 27)));have hsz:(W.alloc (.cells #[.pointer (some ⟨gd,0,none⟩)] 27)).heap.size=W.heap.size+1:=sp_;rw[hsz,hw]at WD;have ST:=ae (fun(w1:World)(v:Value)=>Ll.start h (w1:=w1) (v:=v) (ws:=[x,a]) sp_);have eg:∀args w,(callFunc 32 args).run Tryz.prog w=.ok (.enter 32 args) w:=enters_of Tryz.func32 kr_ rfl;have ey:∀args w,(callFunc 33 args).run Tryz.prog w=.ok (.enter 33 args) w:=enters_of Tryz.func33 kr_ rfl;have SH:=Dsk.words_short s;rw[hw]at SH;have z1:a.size≤50000:=h_ (SH a sp_) hs;have CN:=ae (fun(u:ByteArray)(hu:u.size≤100000)(V:World)(hv:Rd w gd gb S l V)=>bp u hu V (tb.at hv.bel));have NL:=fx hO.hold.good.ex.ok (Dsk.num a);have AK:=ae (fun(V:World)(hv:Rd w gd gb S l V)=>Idl.bList_any V hv.bed.hasN hO.hold.good.ex.ok (Dsk.num a));generalize Img.snames S.now (Dsk.num a)=ns at*;have PA:=ae (Dsk.pre_all [] Dsk.wNames (ns.map (·.toList)));have PL:∀j,(Dsk.pre [] Dsk.wNames (ns.map (·.toList)) j).length≤200:=fun j=>by
  have h1:=Dsk.pre_len [] Dsk.wNames (ns.map (·.toList)) j;have h2:=cg Dsk.wNames (ns.map (·.toList)) 6 (fun y hy=>by obtain⟨z,hz,rfl⟩:=List.mem_map.1 hy;exact NL.2 z hz);rw[iO,show Dsk.wNames.length=5 from rfl]at h2;have:=NL.1;rw[iN]at h1;omega
 have OS:=ae (fun(x:List UInt8)(hx:x.length≤200)(V:World)(hv:Rd w gd gb S l V)=>bS hv x om_);clear SH tb hO hn hlen;clear h hw hsz;go_enter Tryz.func23,Tryz.ntmps23;go_wp2_with fail;refine(ac WD).mono ?_;rintro e w1 ⟨v,rfl,ow,b1⟩;obtain⟨A,c,rfl,hl,hc⟩:=ac ST w1 v ow b1;obtain⟨w2,hw2⟩:∃w2,w2=w1.alloc (.cells #[.slice (some ⟨A,0,none⟩) 2 c] 22):=⟨_,rfl⟩;replace hl:Ll w gd gb W.heap.size w1.heap.size A c [x,a] S l w2:=by rw[hw2];exact hl
 replace hc:Rc gd gb W w2:=by rw[hw2];exact hc
 have HL:=ae hl;have HC:=ae hc;have HW:=ae hw2;have IS:=ae (fun(u:ByteArray)(k:Int) hk=>bE x u k hk w1.heap.size A 2 c om_ om_ w2 hl.lf.c4 (hl.lf.cw 0 x rfl));have c4:=hl.lf.c4;have c2:=hl.lf.c2;clear ow b1 hl hc WD ST hw2;go_wp2_with fail;rw[←ac HW];refine(ac IS _ _ om_).mono ?_;rintro e w0 ⟨rfl,e9⟩;rw[e9];clear e9 w0;go_upto_region 36 with(go_at_call 32;refine(ac IS _ _ om_).mono ?_;rintro e w0 ⟨rfl,e9⟩;rw[e9];clear e9 w0);have HX:=ae ((ac HL).call (gX _ w2).drew);have RX:=ae (Rc.trans (ac HC) (show Rc gd gb w2 w2.drew from Idl.Chg.of_below (gX _ w2).drew));refine iU (S:=Lf gd gb W.heap.size w1.heap.size A c [x,a]) kr_ ((ac HX).lf) (fun hS=>?_);refine tkH 0 (.pointer (some ⟨gd,0,none⟩)) rfl (fun W h=>Op9.ld_desk _ rfl kr_ W h.c2) hS ?_;refine tkQ 1 gd 0 rfl hS ?_;refine tkQ 2 gd 1 rfl hS ?_;refine tkH 3 (.pointer (some ⟨gb,0,none⟩)) rfl (fun W h=>Op9.ld_bed _ rfl kr_ W h.cd) hS ?_;refine tkH 4 (.slice (some ⟨A,0,none⟩) 2 c) rfl (fun W h=>Op9.ld_ws _ rfl kr_ W h.c4) hS ?_;refine tkH 5 (.pointer (some ⟨A,1,none⟩)) rfl (fun W h=>Op9.ixc (g:=A) (n:=2) (c:=c) (.tmp 209) 1 kr_ kr_ kr_ dc_ W) hS ?_;refine tkH 6 (.string a) rfl (fun W h=>Op9.ld_str _ rfl kr_ W (h.cw 1 _ rfl)) hS ?_;refine tkO 7 rfl (fun K hK=>?_);go_simp;refine(ac CN a om_ _ (ac HX).rd).mono ?_;rintro e v1 ⟨rfl,b1⟩;have HX1:=ae ((ac HX).call b1);have RX1:=ae (Rc.trans (ac RX) (show Rc gd gb _ v1 from Idl.Chg.of_below b1));clear b1;go_wp2_with fail;refine hK.out _ _ ((ac HX1).lf) (fun hS1=>?_);clear hK K;try simp only[Zsm]
 refine tkO 8 rfl (fun K hK=>?_);go_simp;refine(ac AK _ (ac HX1).rd).mono ?_;rintro e v2 ⟨v,rfl,ow,b2⟩;obtain⟨ta,tc,rfl,hcl⟩:=gp ow;have HX2:=ae ((ac HX1).call b2);have RX2:=ae (Rc.trans (ac RX1) (show Rc gd gb _ v2 from Idl.Chg.of_below b2));have NC:=ae hcl;clear b2 ow hcl;go_wp2_with fail;refine hK.out _ _ ((ac HX2).lf) (fun hS2=>?_);clear hK K;try simp only[Zsm]
 refine tkP 9 (.slice ta ns.length tc) rfl hS2 ?_;refine tkD ?_;clear IS c4 c2 AK CN HX RX hS;have c2:=(ac HX2).lf.c2;have nl:ns.length≤4:=NL.1;clear NL;go_wp2_with fail;go_loop [12,14] (fun o i=>∃j:Nat,j≤ns.length∧i=.int .i64 j∧o=.string (mkb (Dsk.pre [] Dsk.wNames (ns.map (·.toList)) j))) (fun _ i=>ns.length-(intOf i).toNat)
 case atStart=>exact⟨0,hZ _,rfl,rfl⟩
 case round=>
  obtain⟨j,hj,rfl,rfl⟩:=hrel;have pl:=PL j;by_cases hlt:j<ns.length
  case pos=>
   have hjz:(j:Int)<(ns.length:Int):=om_;obtain⟨nm,hnm⟩:∃nm,ns[j]? =some nm:=⟨_,iB hlt⟩;obtain⟨g9,rfl,hc9⟩:=ac NC j nm hnm;have PS:=Dsk.pre_succ (l:=[]) (x:=Dsk.wNames) (ws:=ns.map (·.toList)) (i:=j) (y:=nm.toList) (by rw[List.getElem?_map,hnm];rfl);have pl2:=PL (j+1);rw[PS]at pl2;rw[gZ,gZ,iT,ap]at pl2;have EP:=ae (show mkb (Dsk.pre [] Dsk.wNames (ns.map (·.toList)) (j+1))=mkb (Dsk.pre [] Dsk.wNames (ns.map (·.toList)) j)++(⟨#[32]⟩++nm)by
    rw[PS,iF,←bR,←bR];congr 2;exact Txt.ba_list (by rw[ByteArray.toList_eq,ByteArray.toList_eq]))
   have z1:(⟨#[32]⟩:ByteArray).size+nm.size≤9223372036854775807:=by show 1+_≤_;omega
   have z0:1+nm.size≤9223372036854775807:=om_;have zz:(⟨#[32]⟩++nm).size=1+nm.size:=by rw[ByteArray.size_append];rfl
   have z3:(mkb (Dsk.pre [] Dsk.wNames (ns.map (·.toList)) j)).size=(Dsk.pre [] Dsk.wNames (ns.map (·.toList)) j).length:=aC _;generalize mkb (Dsk.pre [] Dsk.wNames (ns.map (·.toList)) j)=O at*;have z2:O.size+(⟨#[32]⟩++nm).size≤9223372036854775807:=by rw[zz,z3];omega
   clear PS pl2 hnm PL z3 zz;go_wp2_with fail;go_round
   case rel=>exact⟨j+1,om_,by go_num,by rw[ac EP]⟩
   case measure=>simp[intOf];omega
  case neg=>
   have hjz:¬(j:Int)<(ns.length:Int):=om_;obtain rfl:j=ns.length:=om_;have PA2:=ac PA;rw[iO]at PA2;have OW:=ae (ac OS _ pl);rw[PA2]at OW;generalize Dsk.pre [] Dsk.wNames (ns.map (·.toList)) ns.length=y at*;clear PA PA2 OS PL;go_wp2_with fail;refine(ac OW _ (ac HX2).rd).mono ?_;rintro e u ⟨rfl,hr,hc⟩;have RU:=ae (And.intro hr (Rc.trans (ac RX2) hc));clear hr hc;go_wp2_with fail;go_end0;exact⟨rfl,ac RU⟩
end
end
end Go.Proofs.YtfpfpnhpbnnmfadGreatDoor
