import Derived.Test.YtfpfpnhpbnnmfadGreatDoorXaa
import Derived.Test.YtfpfpnhpbnnmfadGreatDoorXaq
import Derived.Test.YtfpfpnhpbnnmfadGreatDoorXbc
import Derived.Test.YtfpfpnhpbnnmfadGreatDoorXbh
import Derived.Test.YtfpfpnhpbnnmfadGreatDoorXat
import Derived.Deep.DeepCutAuto
import Derived.Test.YtfpfpnhpbnnmfadGreatDoorXbb
import Derived.Test.YtfpfpnhpbnnmfadGreatDoorXap
import Derived.Test.YtfpfpnhpbnnmfadGreatDoorXba
set_option maxHeartbeats 40000000
set_option maxRecDepth 100000
set_option linter.unusedVariables false
namespace Go.Proofs.YtfpfpnhpbnnmfadGreatDoor
section
open Go.RowKit
open Idl (Stp chk stpA strs)
section
variable {w W W':World}{B bd bl bf bc:Nat}{S:Lv}{l:List UInt8}
theorem Op9.st_row {o:Oper}{a:Act}{K:Act→World→Prop}{Q:Exit→Act→World→Prop}{W:World}(ty:TypeId)(x y:Operand)(ho:o.op=.store ty x y)(hd:o.dst=none){g:Nat}{cells old:Array Value}{t:TypeId}(hx:a.eval x=.pointer (some ⟨g,0,none⟩))(hy:a.eval y=.agg cells)
 (hg:W.heap[g]? =some (.cells old t)) (hi:(Tryz.prog.info? ty).map (·.size)=some cells.size) (hz:old.size=cells.size) (hall:cells.all (·.oneCell')=true) (h:K a (W.setRow g cells)):Oper.wp Tryz.prog o a W K Q:=by
 refine Op1.st_part ty x y ho hd hx hy hg hi om_ hall ?_;have:aG old 0 cells=cells:=by unfold aG;rw[←hz,hY,List.drop_eq_nil_of_le sp_];simp
 rw[this];exact h
theorem Op9.ix0 {o:Oper}{ρ:Operand→Value}(x:Operand)(ho:o.op=.indexAddr 22 x (.const (.int .i64 0))){g n c:Nat}(hx:ρ x=.slice (some ⟨g,0,none⟩) n c)(hy:ρ (.const (.int .i64 0))=.int .i64 0)(hj:0<n)(w:World):(execOp ρ o).run Tryz.prog w=.ok (.value (.pointer (some ⟨g,0,none⟩))) w:=by
 have jz:(0:Int)<(n:Int):=om_;unfold execOp;rw[ho];go_simp
theorem str_under9:Tryz.prog.underlying 22=some (.slice (Tryz.prog.elem 22)):=kr_
theorem str_size9:(Tryz.prog.info? (Tryz.prog.elem 22)).map (·.size)=some 1:=kr_
theorem Op9.cut_hi {P:Program}{size:Nat}{o:Oper}{ρ:Operand→Value}(x y:Operand)(ty:TypeId)(ho:o.op=.slice ty x (some y) none none){a:Option Addr}{m cap k:Nat}(hx:ρ x=.slice a m cap)(hy:ρ y=.int .i64 (k:Int))(hk:k≤m)
 (hu:P.underlying ty=some (.slice (P.elem ty))) (hs:(P.info? (P.elem ty)).map (·.size)=some size) (w:World):(execOp ρ o).run P w=.ok (.value (sliced a k m cap size)) w:=by
 cases hq:P.info? (P.elem ty)with
 |none=>rw[hq]at hs;cases hs
 |some q=>
  rw[hq]at hs;have hs':q.size=size:=by simpa using hs
  have:=run_slice_l (P:=P) w ty a m cap hu .i64 (k:Int) om_ om_;unfold execOp;simp[ho,hx,hy,run_sliceAt_slice,hu,this,sizeOf,typeInfo,hq,hs']
theorem Op9.cut1 {o:Oper}{ρ:Operand→Value}(x:Operand)(ho:o.op=.slice 22 x (some (.const (.int .i64 1))) none none){a:Option Addr}{m cap:Nat}(hx:ρ x=.slice a m cap)(hy:ρ (.const (.int .i64 1))=.int .i64 1)(hk:1≤m)(w:World):(execOp ρ o).run Tryz.prog w=.ok (.value (sliced a 1 m cap 1)) w:=
 Op9.cut_hi (k:=1) x _ 22 ho hx hy hk str_under9 str_size9 w
structure Lb (W V:World)(gw g4:Nat)(s:ByteArray)(y:Stp):Prop where
 bel:Below W.heap.size W V
 box:V.heap[g4]? =some (.cells (stpA y) 84)
 wd:V.cell? ⟨gw,0,none⟩=some (.string s)
 gt:W.heap.size≤g4
theorem words_tail {s:ByteArray}{more:List ByteArray}{gw c:Nat}(hv:W.ownsRow B 9 1 (.slice (some ⟨gw,0,none⟩) (s::more).length c) (s::more).length (strs (s::more))):Wds W (sliced (some ⟨gw,0,none⟩) 1 (s::more).length c 1) more∧W.cell? ⟨gw,0,none⟩=some (.string s):=by
 have hc:(s::more).length≤c:=by
  rcases hv.2 with⟨h,_⟩|⟨g,cap,cur,h,_,_,hle,_⟩
  ·cases h
  ·cases h;exact hle
 refine⟨⟨_,_,rfl,fun i x hx=>?_⟩,by rw[hv.cellAt 0 sp_];rfl⟩;have hi:=(ip.1 hx).1;rw[ig]at hc;rw[if_neg om_];refine⟨gw,0+1*1,rfl,?_⟩;rw[show 0+1*1+i=i+1 by omega,hv.cellAt (i+1) (by rw[ig];omega)];simp[strs,hx]
theorem told_none {s:ByteArray}{more:List ByteArray}(h:Dsk.meant s more=none):Dsk.told S (s::more)=Txt.line [Dsk.wWhat]∧Dsk.next S (s::more)=S:=by
 unfold Dsk.told Dsk.next;simp only[h];exact⟨trivial,trivial⟩
theorem told_step {s:ByteArray}{more:List ByteArray}{x:Stp}(h:Dsk.meant s more=some x)(hk:x.kind≠0):Dsk.told S (s::more)=Dsk.ansStep S x∧Dsk.next S (s::more)=S.step x:=by
 unfold Dsk.told Dsk.next;simp only[h,if_pos hk];exact⟨trivial,trivial⟩
theorem told_ask {s:ByteArray}{more:List ByteArray}{x:Stp}(h:Dsk.meant s more=some x)(hk:x.kind=0):Dsk.told S (s::more)=Dsk.ansAsk S s.toList x∧Dsk.next S (s::more)=S:=by
 have:¬x.kind≠0:=fun z=>z hk
 unfold Dsk.told Dsk.next;simp only[h,if_neg this];exact⟨trivial,trivial⟩
theorem fill_parts {x y:Stp}{c:UInt8}{s:ByteArray}(h:Dsk.fill x c s=some y)(hs:s.size≤100000):y.kind=x.kind∧(x.name.size≤100000→y.name.size≤100000)∧(x.to.size≤100000→y.to.size≤100000)∧(x.text.size≤100000→y.text.size≤100000):=by
 unfold Dsk.fill at h;repeat' split at h
 all_goals first
  |(cases h;exact⟨rfl,fun h=>by first|exact h|exact hs,fun h=>by first|exact h|exact hs,fun h=>by first|exact h|exact hs⟩)
  |skip
 obtain⟨t,ht,rfl⟩:=Option.map_eq_some_iff.1 h;refine⟨rfl,fun h=>h,fun h=>h,fun _=>?_⟩;unfold Dsk.mean at ht;obtain⟨u,hu,rfl⟩:=Option.map_eq_some_iff.1 ht;have e:=(Dsk.meanL_iff _ _).1 hu;have h1:=congrArg List.length e;have h2:=(Txt.showR_len u).1;rw[ap]at h1;rw[show(Txt.shows u).length=(Txt.showR u).length+1 from rfl]at h1;rw[aC];show u.length≤100000;omega
theorem fJ:∀{cs:List UInt8}{ws:List ByteArray}{x y:Stp},Dsk.fills x cs ws=some y→(∀s∈ws,s.size≤100000)→x.name.size≤100000→x.to.size≤100000→x.text.size≤100000→y.kind=x.kind∧y.name.size≤100000∧y.to.size≤100000∧y.text.size≤100000
 |[],_,x,y,h,_,h1,h2,h3=>by cases h;exact⟨rfl,h1,h2,h3⟩
 |_::_,[],x,y,h,_,h1,h2,h3=>by cases h;exact⟨rfl,h1,h2,h3⟩
 |c::cs,s::ws,x,y,h,hw,h1,h2,h3=>by
  obtain⟨z,hz,hy⟩:=Option.bind_eq_some_iff.1 (show(Dsk.fill x c s).bind (fun y=>Dsk.fills y cs ws)=some y from h);have p:=fill_parts hz (hw s (iq ..));have q:=fJ hy (fun s hs=>hw s (iy _ hs)) (p.2.1 h1) (p.2.2.1 h2) (p.2.2.2 h3);exact⟨q.1.trans p.1,q.2⟩
theorem dS {s:ByteArray}{more:List ByteArray}{x:Stp}(h:Dsk.meant s more=some x)(hw:∀s∈more,s.size≤100000):(∃f∈Dsk.frms,f.word.toList=s.toList∧f.kind=x.kind)∧x.name.size≤100000∧x.to.size≤100000∧x.text.size≤100000:=by
 unfold Dsk.meant at h;split at h
 ·cases h
 ·rename_i f hf
  have q:=fJ h hw (hZ _) (hZ _) (hZ _);have p:=List.find?_some hf;unfold Dsk.isFrm at p;rw[ik]at p;exact⟨⟨f,List.mem_of_find?_eq_some hf,by simpa using p.1,q.1.symm⟩,q.2⟩
theorem ask_words {s:ByteArray}{more:List ByteArray}{x:Stp}(h:Dsk.meant s more=some x)(hw:∀s∈more,s.size≤100000)(hk:x.kind=0):s=⟨#[114,101,97,100]⟩∨s=⟨#[108,105,115,116]⟩∨s=⟨#[115,97,109,101]⟩∨s=⟨#[115,117,114,101]⟩∨s=⟨#[100,105,115,107]⟩∨s=⟨#[100,105,114,116,121]⟩∨s=⟨#[108,111,115,116]⟩:=by
 obtain⟨⟨f,hf,he,hkk⟩,_⟩:=dS h hw;have hs:f.word=s:=Txt.ba_list he;have key:∀f∈Dsk.frms,f.kind=0→f.word.data= #[114,101,97,100]∨f.word.data= #[108,105,115,116]∨f.word.data= #[115,97,109,101]∨f.word.data= #[115,117,114,101]∨f.word.data= #[100,105,115,107]∨f.word.data= #[100,105,114,116,121]∨f.word.data= #[108,111,115,116]:=by decide+kernel
 have k:=key f hf (hkk.trans hk);rw[hs]at k;rcases k with k|k|k|k|k|k|k
 ·exact .inl (ByteArray.ext k)
 ·exact .inr (.inl (ByteArray.ext k))
 ·exact .inr (.inr (.inl (ByteArray.ext k)))
 ·exact .inr (.inr (.inr (.inl (ByteArray.ext k))))
 ·exact .inr (.inr (.inr (.inr (.inl (ByteArray.ext k)))))
 ·exact .inr (.inr (.inr (.inr (.inr (.inl (ByteArray.ext k))))))
 ·exact .inr (.inr (.inr (.inr (.inr (.inr (ByteArray.ext k))))))
theorem ask_any (h:Dk w B bd bl bf bc S l W){n:Nat}(hO:S.Ok n)(hn:n≤1000000)(hN:S.Neat)(tb:aW w)(hlen:l.length+20000000≤140737488355328){s:ByteArray}{more:List ByteArray}{x:Stp}(hm:Dsk.meant s more=some x)(hw:∀s∈more,s.size≤100000)(hk:x.kind=0):
 Calls Tryz.prog 30 #[.pointer (some ⟨bd,0,none⟩),.string s,.agg (stpA x)] W fun e w'=>e=.returned (.tuple #[])∧Dk w B bd bl bf bc S (l++Dsk.ansAsk S s.toList x) w'∧De B bd bl bf bc bf bc W w':=by
 have h1:x.name.size≤maxLen:=by have:=(dS hm hw).2.1;unfold maxLen;omega
 rcases ask_words hm hw hk with rfl|rfl|rfl|rfl|rfl|rfl|rfl<;>rw[ByteArray.toList_mk]
 ·exact ask_read h hO x h1 tb hN.now.text om_
 ·exact ask_list h hO x h1 tb om_
 ·exact ask_same h hO x h1 tb om_
 ·exact ask_sure h hO x h1 tb om_
 ·exact ask_disk h hO x h1 tb (Lv.fine hN hO hn) hlen
 ·exact ask_dirty h hO x h1 tb om_
 ·exact ask_lost h hO x h1 tb hN hn om_
theorem dLine_any {B0:Nat}(h:Dk w B bd bl bf bc S l W){k:Nat}(hO:S.Ok k)(hn:k≤1000000)(hN:S.Neat)(tb:aW w)(hlen:l.length+20000000≤140737488355328)(ws:List ByteArray)(hw:∀s∈ws,s.size≤100000)(hW:ws.length≤100000)(v:Value)(hv:W.ownsRow B0 9 1 v ws.length (strs ws)):
 Calls Tryz.prog 17 #[.pointer (some ⟨bd,0,none⟩),v] W fun e w'=>e=.returned (.tuple #[])∧∃bf' bc',Dk w B bd bl bf' bc' (Dsk.next S ws) (l++Dsk.told S ws) w'∧De B bd bl bf bc bf' bc' W w':=by
 cases ws with
 |nil=>
  obtain⟨a,c,rfl⟩:∃a c,v=.slice a 0 c:=by
   rcases hv.2 with⟨hv,_⟩|⟨g,cap,cur,hv,_⟩
   ·exact⟨_,_,hv⟩
   ·exact⟨_,_,hv⟩
  have R:=ae (show Dk w B bd bl bf bc (Dsk.next S []) (l++Dsk.told S []) W by rw[show Dsk.told S []=[]from rfl,iM];exact h);clear h hv;go_enter Tryz.func17,Tryz.ntmps17;go_wp2_with fail;(try simp only[Exit.inBlock,Exit.then]);refine bodyPost_ret (results_none rfl _ _ _) rfl ?_;exact⟨rfl,bf,bc,ac R,De.of_below (gX _ _)⟩
 |cons s more=>
  obtain⟨gw,c,cur,rfl,hgw⟩:∃gw c cur,v=.slice (some ⟨gw,0,none⟩) (s::more).length c∧W.heap[gw]? =some (.cells cur 9):=by
   rcases hv.2 with⟨_,hz⟩|⟨g,cap,cur,hv,_,hg,_⟩
   ·simp at hz
   ·exact⟨g,cap,cur,hv,hg⟩
  obtain⟨hwd,hc0⟩:=words_tail hv;have hb:Below W.heap.size W W.drew:=(gX _ W).drew;have hw1:∀s∈more,s.size≤100000:=fun s hs=>hw s (iy _ hs)
  have M:=ae (fun V (b:Below W.heap.size W V)=>dMeant_any s more hw1 (by rw[ig]at hW;omega) _ V (hwd.below b) (tb.at (h.lo.bel.trans (b.mono h.lo.bel.size))));have H:=ae h;have GW:=ae hgw;have ST:=ae (fun(x:Stp)(hm:Dsk.meant s more=some x)(hk:x.kind≠0)(hx:x.name.size≤maxLen∧x.to.size≤maxLen∧x.text.size≤maxLen) V (hv:Dk w B bd bl bf bc S l V)=>dStep_any hv hO hn x hx.1 hx.2.1 hx.2.2 tb om_);have AS:=ae (fun(x:Stp)(hm:Dsk.meant s more=some x)(hk:x.kind=0) V (hv:Dk w B bd bl bf bc S l V)=>ask_any hv hO hn hN tb hlen hm hw1 hk);have WT:=ae (fun V (hv:Dk w B bd bl bf bc S l V)=>cG hv Dsk.wWhat (by show _+4+10≤_;omega));have HW:=ae hw1;have n0:0<(s::more).length:=sp_;generalize(s::more).length=n at*;obtain⟨sv,hsv⟩:∃sv,sliced (some ⟨gw,0,none⟩) 1 n c 1=sv:=⟨_,rfl⟩;rw[hsv]at M;have HSV:=ae hsv;clear hsv;have nz:((n:Int)==0)=false:=by simp;omega
  have nz2:(n==0)=false:=by simp;omega
  clear h hv hwd hO hn hN tb hlen hw hW hw1;unfold Dsk.wWhat at WT;go_enter Tryz.func17,Tryz.ntmps17;go_upto_region 1 with fail
  go_cut [4,5]from 9 to 18 (fun p q wx=>∃(g4:Nat)(y:Stp)(ok:Bool),p=.pointer (some ⟨g4,0,none⟩)∧q=.bool ok∧Hid (Lb W wx gw g4 s y)∧Hid ((ok=true∧Dsk.meant s more=some y)∨(ok=false∧Dsk.meant s more=none)))
  case first=>
   refine iU (S:=fun V=>V.cell? ⟨gw,0,none⟩=some (.string s)) kr_ hc0 (fun hS=>?_);refine tkP 0 (.slice (some ⟨gw,0,none⟩) n c) rfl hS ?_;refine tkH 1 (.pointer (some ⟨gw,0,none⟩)) rfl (fun W h=>Op9.ix0 (c:=c) _ rfl kr_ kr_ n0 W) hS ?_;refine tkH 2 (.string s) rfl (fun W h=>Op9.ld_str _ rfl kr_ W h) hS ?_;refine tkP 3 (.slice (some ⟨gw,0,none⟩) n c) rfl hS ?_;refine tkH 4 sv rfl (fun W h=>(by rw[←ac HSV];exact Op9.cut1 (.tmp 13) kr_ kr_ kr_ n0 W)) hS ?_;refine wpAnyH_ready (rs:=[5,9]) kr_ sp_ ?_;refine arC rfl (fun K hK=>?_) (arC rfl (fun K hK=>?_) AllReadyH.nil)
   ·rw[if_pos kr_];go_simp;refine(ac M _ hb).mono ?_;rintro e w2 ⟨hm,b2⟩;have b3:Below W.heap.size W w2:=hb.trans (b2.mono (gY _));have c3:w2.cell? ⟨gw,0,none⟩=some (.string s):=aq b3 hc0;rcases hm with⟨y,hy,rfl⟩|⟨hy,rfl⟩
    ·go_wp2_with fail;refine hK.out _ _ c3 (fun hS2=>?_);clear hK K;try simp only[Zsm]
     refine tkP 6 (.tuple #[.agg (stpA y),.bool true]) rfl hS2 ?_;refine tkP 7 (.agg (stpA y)) rfl hS2 ?_;refine tkP 8 (.bool true) rfl hS2 ?_;refine tkO 9 rfl (fun K hK=>?_);go_simp;have rz:(w2.alloc (.cells #[.int .i64 0,.int .i64 0,.int .i64 0,.int .i64 0,.string ⟨#[]⟩,.string ⟨#[]⟩,.string ⟨#[]⟩] 84)).heap[w2.heap.size]? =some (.cells #[.int .i64 0,.int .i64 0,.int .i64 0,.int .i64 0,.string ⟨#[]⟩,.string ⟨#[]⟩,.string ⟨#[]⟩] 84):=iV _ _;have b4:Below W.heap.size W (w2.alloc (.cells #[.int .i64 0,.int .i64 0,.int .i64 0,.int .i64 0,.string ⟨#[]⟩,.string ⟨#[]⟩,.string ⟨#[]⟩] 84)):=b3.alloc b3.size _;have c4:(w2.alloc (.cells #[.int .i64 0,.int .i64 0,.int .i64 0,.int .i64 0,.string ⟨#[]⟩,.string ⟨#[]⟩,.string ⟨#[]⟩] 84)).cell? ⟨gw,0,none⟩=some (.string s):=aq b4 hc0;have sx:Lb W ((w2.alloc (.cells #[.int .i64 0,.int .i64 0,.int .i64 0,.int .i64 0,.string ⟨#[]⟩,.string ⟨#[]⟩,.string ⟨#[]⟩] 84)).setRow w2.heap.size (stpA y)) gw w2.heap.size s y:=⟨ah b4 b3.size _,setRow_heap _ _ _ _ _ _ rz,aq (ah b4 b3.size _) hc0,b3.size⟩;have hmy:=ae hy;refine hK.out _ _ c4 (fun hS4=>?_);clear hK K;try simp only[Zsm]
     refine tkO 10 rfl (fun K hK=>?_);refine Op9.st_row 84 (.tmp 4) (.tmp 16) kr_ kr_ (g:=w2.heap.size) (cells:=stpA y) kr_ kr_ (t:=84) (old:= #[.int .i64 0,.int .i64 0,.int .i64 0,.int .i64 0,.string ⟨#[]⟩,.string ⟨#[]⟩,.string ⟨#[]⟩]) rz aJ rfl (cS y) ?_;refine hK.out _ _ sx.wd (fun hSx=>?_);clear hK K;try simp only[Zsm]
     refine tkP 11 (.bool true) rfl hSx ?_;refine tkD ?_;go_wp2_with fail;go_meet;exact⟨_,_,_,rfl,rfl,ae sx,ae (.inl ⟨rfl,ac hmy⟩)⟩
    ·go_wp2_with fail;refine hK.out _ _ c3 (fun hS2=>?_);clear hK K;try simp only[Zsm]
     refine tkP 6 (.tuple #[.agg (stpA (Dsk.blank 0)),.bool false]) rfl hS2 ?_;refine tkP 7 (.agg (stpA (Dsk.blank 0))) rfl hS2 ?_;refine tkP 8 (.bool false) rfl hS2 ?_;refine tkO 9 rfl (fun K hK=>?_);go_simp;have rz:(w2.alloc (.cells #[.int .i64 0,.int .i64 0,.int .i64 0,.int .i64 0,.string ⟨#[]⟩,.string ⟨#[]⟩,.string ⟨#[]⟩] 84)).heap[w2.heap.size]? =some (.cells #[.int .i64 0,.int .i64 0,.int .i64 0,.int .i64 0,.string ⟨#[]⟩,.string ⟨#[]⟩,.string ⟨#[]⟩] 84):=iV _ _;have b4:Below W.heap.size W (w2.alloc (.cells #[.int .i64 0,.int .i64 0,.int .i64 0,.int .i64 0,.string ⟨#[]⟩,.string ⟨#[]⟩,.string ⟨#[]⟩] 84)):=b3.alloc b3.size _;have c4:(w2.alloc (.cells #[.int .i64 0,.int .i64 0,.int .i64 0,.int .i64 0,.string ⟨#[]⟩,.string ⟨#[]⟩,.string ⟨#[]⟩] 84)).cell? ⟨gw,0,none⟩=some (.string s):=aq b4 hc0;have sx:Lb W ((w2.alloc (.cells #[.int .i64 0,.int .i64 0,.int .i64 0,.int .i64 0,.string ⟨#[]⟩,.string ⟨#[]⟩,.string ⟨#[]⟩] 84)).setRow w2.heap.size (stpA (Dsk.blank 0))) gw w2.heap.size s (Dsk.blank 0):=⟨ah b4 b3.size _,setRow_heap _ _ _ _ _ _ rz,aq (ah b4 b3.size _) hc0,b3.size⟩;have hmy:=ae hy;refine hK.out _ _ c4 (fun hS4=>?_);clear hK K;try simp only[Zsm]
     refine tkO 10 rfl (fun K hK=>?_);refine Op9.st_row 84 (.tmp 4) (.tmp 16) kr_ kr_ (g:=w2.heap.size) (cells:=stpA (Dsk.blank 0)) kr_ kr_ (t:=84) (old:= #[.int .i64 0,.int .i64 0,.int .i64 0,.int .i64 0,.string ⟨#[]⟩,.string ⟨#[]⟩,.string ⟨#[]⟩]) rz aJ rfl (cS (Dsk.blank 0)) ?_;refine hK.out _ _ sx.wd (fun hSx=>?_);clear hK K;try simp only[Zsm]
     refine tkP 11 (.bool false) rfl hSx ?_;refine tkD ?_;go_wp2_with fail;go_meet;exact⟨_,_,_,rfl,rfl,ae sx,ae (.inr ⟨rfl,ac hmy⟩)⟩
   ·rw[if_pos kr_];go_simp;have b3:Below W.heap.size W (W.drew.alloc (.cells #[.int .i64 0,.int .i64 0,.int .i64 0,.int .i64 0,.string ⟨#[]⟩,.string ⟨#[]⟩,.string ⟨#[]⟩] 84)):=hb.alloc (gY _) _;have c3:(W.drew.alloc (.cells #[.int .i64 0,.int .i64 0,.int .i64 0,.int .i64 0,.string ⟨#[]⟩,.string ⟨#[]⟩,.string ⟨#[]⟩] 84)).cell? ⟨gw,0,none⟩=some (.string s):=aq b3 hc0;have r3:(W.drew.alloc (.cells #[.int .i64 0,.int .i64 0,.int .i64 0,.int .i64 0,.string ⟨#[]⟩,.string ⟨#[]⟩,.string ⟨#[]⟩] 84)).heap[W.heap.size]? =some (.cells #[.int .i64 0,.int .i64 0,.int .i64 0,.int .i64 0,.string ⟨#[]⟩,.string ⟨#[]⟩,.string ⟨#[]⟩] 84):=iV _ _;refine hK.out _ _ c3 (fun hS2=>?_);clear hK K;try simp only[Zsm]
    refine tkO 5 rfl (fun K hK=>?_);go_simp;refine(ac M _ b3).mono ?_;rintro e w2 ⟨hm,b2⟩;have b4:Below W.heap.size W w2:=b3.trans (b2.mono b3.size);have c4:w2.cell? ⟨gw,0,none⟩=some (.string s):=aq b4 hc0;have rz:w2.heap[W.heap.size]? =some (.cells #[.int .i64 0,.int .i64 0,.int .i64 0,.int .i64 0,.string ⟨#[]⟩,.string ⟨#[]⟩,.string ⟨#[]⟩] 84):=by rw[b2.block _ (gW.1 r3).1];exact r3
    rcases hm with⟨y,hy,rfl⟩|⟨hy,rfl⟩
    ·go_wp2_with fail;refine hK.out _ _ c4 (fun hS4=>?_);clear hK K;try simp only[Zsm]
     refine tkP 6 (.tuple #[.agg (stpA y),.bool true]) rfl hS4 ?_;refine tkP 7 (.agg (stpA y)) rfl hS4 ?_;refine tkP 8 (.bool true) rfl hS4 ?_;have sx:Lb W (w2.setRow W.heap.size (stpA y)) gw W.heap.size s y:=⟨ah b4 (gY _) _,setRow_heap _ _ _ _ _ _ rz,aq (ah b4 (gY _) _) hc0,gY _⟩;have hmy:=ae hy;refine tkO 10 rfl (fun K hK=>?_);refine Op9.st_row 84 (.tmp 4) (.tmp 16) kr_ kr_ (g:=W.heap.size) (cells:=stpA y) kr_ kr_ (t:=84) (old:= #[.int .i64 0,.int .i64 0,.int .i64 0,.int .i64 0,.string ⟨#[]⟩,.string ⟨#[]⟩,.string ⟨#[]⟩]) rz aJ rfl (cS y) ?_;refine hK.out _ _ sx.wd (fun hSx=>?_);clear hK K;try simp only[Zsm]
     refine tkP 11 (.bool true) rfl hSx ?_;refine tkD ?_;go_wp2_with fail;go_meet;exact⟨_,_,_,rfl,rfl,ae sx,ae (.inl ⟨rfl,ac hmy⟩)⟩
    ·go_wp2_with fail;refine hK.out _ _ c4 (fun hS4=>?_);clear hK K;try simp only[Zsm]
     refine tkP 6 (.tuple #[.agg (stpA (Dsk.blank 0)),.bool false]) rfl hS4 ?_;refine tkP 7 (.agg (stpA (Dsk.blank 0))) rfl hS4 ?_;refine tkP 8 (.bool false) rfl hS4 ?_;have sx:Lb W (w2.setRow W.heap.size (stpA (Dsk.blank 0))) gw W.heap.size s (Dsk.blank 0):=⟨ah b4 (gY _) _,setRow_heap _ _ _ _ _ _ rz,aq (ah b4 (gY _) _) hc0,gY _⟩;have hmy:=ae hy;refine tkO 10 rfl (fun K hK=>?_);refine Op9.st_row 84 (.tmp 4) (.tmp 16) kr_ kr_ (g:=W.heap.size) (cells:=stpA (Dsk.blank 0)) kr_ kr_ (t:=84) (old:= #[.int .i64 0,.int .i64 0,.int .i64 0,.int .i64 0,.string ⟨#[]⟩,.string ⟨#[]⟩,.string ⟨#[]⟩]) rz aJ rfl (cS (Dsk.blank 0)) ?_;refine hK.out _ _ sx.wd (fun hSx=>?_);clear hK K;try simp only[Zsm]
     refine tkP 11 (.bool false) rfl hSx ?_;refine tkD ?_;go_wp2_with fail;go_meet;exact⟨_,_,_,rfl,rfl,ae sx,ae (.inr ⟨rfl,ac hmy⟩)⟩
  case rest=>
  obtain⟨g4,y,ok,rfl,rfl,LB,MX⟩:=hcut;have H1:=ae ((ac H).call (ac LB).bel);have k0:wc.cell? ⟨g4,0,none⟩=some (.int .i64 y.kind):=by rw[iW _ _ _ _ _ _ (ac LB).box];rfl
  have D1:=ae (show De B bd bl bf bc bf bc W wc from De.of_below (ac LB).bel);clear M;cases ok
  case false=>
   have hm:Dsk.meant s more=none:=by
    rcases ac MX with⟨z,_⟩|⟨_,z⟩
    ·cases z
    ·exact z
   have E:=ae (told_none (S:=S) hm);have O:=ae (ac WT wc (ac H1));rw[show([119,104,97,116]:List UInt8)=Dsk.wWhat from rfl,←(ac E).1]at O;rw[show(⟨Dsk.wWhat.toArray⟩:ByteArray)=⟨#[119,104,97,116]⟩from rfl]at O;clear WT ST AS MX hm;go_wp2_with fail;refine(ac O).mono ?_;rintro e w9 ⟨rfl,h9,f9⟩;have R:=ae (And.intro h9 ((ac D1).trans (De.of_df f9)));clear h9 f9 O;go_wp2_with fail;go_end0;exact⟨rfl,bf,bc,by rw[(ac E).2];exact(ac R).1,(ac R).2⟩
  case true=>
   have hm:Dsk.meant s more=some y:=by
    rcases ac MX with⟨_,z⟩|⟨z,_⟩
    ·exact z
    ·cases z
   clear WT MX;by_cases hk:y.kind=0
   case neg=>
    have q0:(y.kind !=0)=true:=by simpa using hk
    have E:=ae (told_step (S:=S) hm hk);have hp:=(dS hm (ac HW)).2;have O:=ae (ac ST y hm hk ⟨by unfold maxLen;omega,by unfold maxLen;omega,by unfold maxLen;omega⟩ wc (ac H1));rw[←(ac E).1,←(ac E).2]at O;have bx:=ae (ac LB).box;clear ST AS hm hk hp;go_wp2_with(have hx:=ac bx;refine wpList_load_row rfl 84 _ rfl g4 rfl 84 (stpA y) (0,0) _ hx aU rfl aJ ?_;clear hx bx);refine(ac O).mono ?_;rintro e w9 ⟨rfl,bf',bc',h9,f9⟩;have R:=ae (And.intro h9 ((ac D1).trans f9));clear h9 f9 O;go_wp2_with fail;go_end0;exact⟨rfl,bf',bc',ac R⟩
   case pos=>
    have q0:(y.kind !=0)=false:=by simpa using hk
    have E:=ae (told_ask (S:=S) hm hk);have b1:Below wc.heap.size wc wc.drew:=(gX _ wc).drew;have O:=ae (ac AS y hm hk wc.drew ((ac H1).call b1));rw[←(ac E).1]at O;have S1:wc.drew.cell? ⟨gw,0,none⟩=some (.string s)∧wc.drew.heap[g4]? =some (.cells (stpA y) 84):=⟨(ac LB).wd,(ac LB).box⟩;have gw1:wc.drew.heap[gw]? =some (.cells cur 9):=by
     show wc.heap[gw]? =_;rw[(ac LB).bel.block _ (gW.1 (ac GW)).1];exact ac GW
    clear ST AS hm hk;go_upto_region 2 with fail
    refine iU (S:=fun V=>V.cell? ⟨gw,0,none⟩=some (.string s)∧V.heap[g4]? =some (.cells (stpA y) 84)) kr_ S1 (fun hS=>?_);refine tkQ 0 bd 0 rfl hS ?_;refine tkP 1 (.slice (some ⟨gw,0,none⟩) n c) rfl hS ?_;refine tkH 2 (.pointer (some ⟨gw,0,none⟩)) rfl (fun W h=>Op9.ix0 (c:=c) _ rfl kr_ kr_ n0 W) hS ?_;refine tkH 3 (.string s) rfl (fun W h=>Op9.ld_str _ rfl kr_ W h.1) hS ?_;refine tkH 4 (.agg (stpA y)) rfl (fun W h=>aD 84 (.tmp 4) kr_ _ kr_ W 84 (stpA y) (0,0) _ h.2 aU rfl aJ) hS ?_;refine tkO 5 rfl (fun K hK=>?_);go_simp;refine(ac O).mono ?_;rintro e w9 ⟨rfl,h9,f9⟩;have S9:w9.cell? ⟨gw,0,none⟩=some (.string s)∧w9.heap[g4]? =some (.cells (stpA y) 84):=by
     obtain⟨ds,hd⟩:=((ac H1).call b1).row;have k1:=((ac H1).call b1).lo;obtain⟨c1,c2,f⟩:=k1.fo.it;have e1:=f9.old gw (gW.1 gw1).1 (aH gw1 hd dc_) (aH gw1 k1.root dc_) (aH gw1 f.root dc_) (aH gw1 f.row dc_) (.inr (dy gw1 dc_));have e2:=f9.old g4 (gW.1 S1.2).1 (aH S1.2 hd dc_) (aH S1.2 k1.root dc_) (aH S1.2 f.root dc_) (aH S1.2 f.row dc_) (.inr (dy S1.2 dc_));refine⟨?_,by rw[e2];exact S1.2⟩;have:=S1.1;unfold World.cell? at this⊢;rw[show w9.heap[(⟨gw,0,none⟩:Addr).block]? =wc.drew.heap[(⟨gw,0,none⟩:Addr).block]? from e1];exact this
    have R:=ae (And.intro h9 ((ac D1).trans ((De.of_below b1).trans f9)));clear h9 f9 O;go_wp2_with fail;refine hK.out _ _ S9 (fun hS9=>?_);clear hK K;try simp only[Zsm]
    refine tkD ?_;clear hS hS9 S9 S1 gw1 b1;go_wp2_with fail;go_end0;exact⟨rfl,bf,bc,by rw[(ac E).2];exact(ac R).1,(ac R).2⟩
end
end
section
open Go.RowKit
open Idl (Stp chk stpA strs)
namespace Dsk
def hasNl (s:ByteArray):Bool:=decide (0≤Lib.indexByte s.data.toList 10)
def torn (L:List ByteArray):Int:=Img.firstI (fun i=>hasNl (L.getD i ⟨#[]⟩)) L.length
theorem spans_len (p:Nat→Bool)(s:ByteArray):∀(f pos:Nat)(st:Option Nat)(acc:List (Nat×Nat)),(Lib.spansFromP p s f pos st acc).1.length≤acc.length+f
 |0,_,_,_=>gY _
 |f+1,pos,st,acc=>by
  unfold Lib.spansFromP;repeat' split
  all_goals first
   |(refine h_ (spans_len p s f _ _ _) ?_;rw[gZ,iT];omega)
   |(refine h_ (spans_len p s f _ _ _) ?_;omega)
   |(show acc.length≤_;omega)
theorem words_few (s:ByteArray):(words s).length≤s.size+1:=by
 unfold words Lib.goFieldsP Lib.spansOfP Lib.closeSpans;rw[iO];have h:=spans_len (fun r=>r==32) s s.size 0 none [];rw[iN,hY]at h;split
 ·rw[gZ,iT];omega
 ·omega
theorem words_short (s:ByteArray):∀x∈words s,x.size≤s.size:=fun x hx=>by
 unfold words Lib.goFieldsP at hx;obtain⟨y,_,rfl⟩:=List.mem_map.1 hx;rw[ByteArray.size_extract];omega
structure Path (L:List ByteArray)(P:Nat→Lv)(m:Nat):Prop where
 few:m+L.length≤1000000
 ok:∀k,k≤L.length→(P k).Ok (m+k)
 neat:∀k,k≤L.length→(P k).Neat
 step:∀(k:Nat) s,L[k]? =some s→∀(w:World)(bl bf bc:Nat)(W:World),Lo w bl bf bc (next (P k) (words s)) W→Lo w bl bf bc (P (k+1)) W
def pathTell (L:List ByteArray)(P:Nat→Lv):Nat→List UInt8
 |0=>[]
 |k+1=>pathTell L P k++told (P k) (words (L.getD k ⟨#[]⟩))
end Dsk
section
variable {S:Lv}
theorem yes_len (b:Bool):(Dsk.yes b).length≤5:=by cases b<;>decide
theorem told_len {n:Nat}(hO:S.Ok n)(hn:n≤1000000)(hN:S.Neat)(ws:List ByteArray):(Dsk.told S ws).length≤16000000:=by
 have one:∀x:List UInt8,x.length≤1000→(Txt.line [x]).length≤16000000:=fun x hx=>by
  have:=cg x [] 0 (fun y hy=>by cases hy);simp only[iN]at this;omega
 have two:∀(x y:List UInt8),x.length≤1000→y.length≤1000→(Txt.line [x,y]).length≤16000000:=fun x y hx hy=>by
  have:=cg x [y] 1000 (fun z hz=>by rw[List.mem_singleton.1 hz];exact hy);simp only[iT]at this;omega
 have io:∀z:Int,0≤z→z≤1000000→(Lib.itoa z).length≤21:=fun z h0 h1=>au ⟨om_,om_⟩
 have rd:∀x:Stp,(Dsk.ansRead S x).length≤16000000:=fun x=>by
  have hc:=eQ S x;have ht:=eP S x hN.now.text hO.hold.good.ex.ok;have hs:=(Txt.showR_len (Img.sreadT S.now x.dir x.name x.p).toList).2;rw[ap]at hs;unfold Dsk.ansRead;split
  ·exact two _ _ dc_ (by have:=io (Img.sreadC S.now x.dir x.name x.p) om_ om_;omega)
  ·split
   ·exact one _ dc_
   ·exact one _ (by show(Txt.showR _).length+1≤_;omega)
 unfold Dsk.told;split
 ·exact hZ _
 ·split
  ·exact one _ dc_
  ·rename_i x _
   split
   ·unfold Dsk.ansStep;have hc:=eV S x;split
    ·exact two _ _ dc_ (by have:=io (S.code x) om_ om_;omega)
    ·exact one _ dc_
   ·unfold Dsk.ansAsk;repeat' split
    ·exact rd x
    ·have h:=fx hO.hold.good.ex.ok x.dir;have:=cg Dsk.wNames ((Img.snames S.now x.dir).map (·.toList)) 6 (fun y hy=>by obtain⟨z,hz,rfl⟩:=List.mem_map.1 hy;exact h.2 z hz);rw[iO,show Dsk.wNames.length=5 from rfl]at this;omega
    ·exact one _ (by have:=yes_len (Img.ssame S.now x.dir x.name x.toDir x.to);omega)
    ·exact one _ (by have:=yes_len (Img.ssure S.now S.disk x.dir x.name);omega)
    ·have:=eR (Lv.fine hN hO hn);have h2:(Txt.line [Dsk.wEnd]).length=4:=rfl;rw[gZ];omega
    ·have h:=eo S 14;have:=cg Dsk.wDirty ((Dsk.dirtyTo S 14).map Lib.itoa) 21 (fun y hy=>by obtain⟨z,hz,rfl⟩:=List.mem_map.1 hy;have:=h.2 z hz;exact io z om_ om_);rw[iO,show Dsk.wDirty.length=5 from rfl]at this;omega
    ·have h0:=hO.cr0;have h1:=hO.crn;have h2:=hN.lf;have h3:=hN.lc;have h4:=hN.ld;have:=cg Dsk.wLost ([S.cr,S.lf,S.lc,S.ld].map Lib.itoa) 21 (fun y hy=>by
      obtain⟨z,hz,rfl⟩:=List.mem_map.1 hy;simp only[ic,iA,or_false]at hz;rcases hz with rfl|rfl|rfl|rfl<;>exact io _ om_ om_)
     rw[iO,show Dsk.wLost.length=4 from rfl,show[S.cr,S.lf,S.lc,S.ld].length=4 from rfl]at this;omega
    ·exact hZ _
end
theorem Dsk.Path.len {L:List ByteArray}{P:Nat→Lv}{m:Nat}(h:Dsk.Path L P m):∀k,k≤L.length→(Dsk.pathTell L P k).length≤k*16000000
 |0,_=>gY _
 |k+1,hk=>by
  have ih:=h.len k om_;have:=told_len (h.ok k om_) (by have:=h.few;omega) (h.neat k om_) (Dsk.words (L.getD k ⟨#[]⟩));show(Dsk.pathTell L P k++Dsk.told (P k) (Dsk.words (L.getD k ⟨#[]⟩))).length≤_;rw[gZ];omega
section
variable {w W W':World}{B bd bl bf bc:Nat}{S:Lv}{l:List UInt8}
theorem dNew_any (w:World){W:World}(hb:Below w.heap.size w W):Calls Tryz.prog 7 #[] W fun e w'=>∃bd bl bf bc,e=.returned (.pointer (some ⟨bd,0,none⟩))∧W.heap.size≤bd∧W.heap.size≤bl∧W.heap.size≤bf∧W.heap.size≤bc∧Dk w w.heap.size bd bl bf bc Lv.new [] w'∧Below W.heap.size W w':=by
 have hF:=ae (lNew_any w hb);have hwW:=hb.size;go_enter Tryz.func7,Tryz.ntmps7;go_wp2_with fail;refine(ac hF).mono ?_;rintro e w1 ⟨bl,bf,bc,rfl,h1,h2,h3,h4,b1⟩;have F1:=ae h4;have B1:=ae b1;clear h4 b1 hF;go_wp2_with fail;go_ret;have ba:Below w1.heap.size w1 (w1.alloc (.cells #[.pointer none,.slice none 0 0,.pointer (some ⟨bl,0,none⟩)] 46)):=(gX _ w1).alloc (gY _) _;exact⟨w1.heap.size,bl,bf,bc,rfl,(ac B1).size,h1,h2,h3,⟨(ac F1).call ba,⟨_,_,.inl rfl,iV _ _,World.ownsRow_nil _ _ _ _,fun _=>rfl⟩,h_ hwW (ac B1).size,gY _,h_ (ac F1).bel.size ba.size⟩,(ac B1).trans (ba.mono (ac B1).size)⟩
theorem nl_any (s:ByteArray)(w:World):Calls Tryz.prog 15 #[.string s] w fun e w'=>e=.returned (.bool (Dsk.hasNl s))∧w'=w:=by
 have D:=contains_any s 10 w;unfold Dsk.hasNl;generalize decide (0≤Lib.indexByte s.data.toList 10)=b at*;go_enter Tryz.func15,Tryz.ntmps15;go_wp2_with(go_at_call 16;refine D.mono ?_;rintro e w0 ⟨rfl,e9⟩;rw[e9];clear e9 w0 D);go_ret;exact⟨rfl,rfl⟩
theorem torn_any (L:List ByteArray)(hL:L.length≤1000)(v:Value)(W:World)(hv:Wds W v L):
 Calls Tryz.prog 14 #[v,.func (.func 15) #[] #[]] W fun e w'=>e=.returned (.int .i64 (Dsk.torn L))∧w'=W:=by
 obtain⟨a,c,rfl,hc⟩:=hv;have HC:=ae hc;have eg:∀args w,(callFunc 15 args).run Tryz.prog w=.ok (.enter 15 args) w:=enters_of Tryz.func15 kr_ rfl;clear hc;go_enter Tryz.func14,Tryz.ntmps14;go_wp2_with fail;go_loop [8] (fun s=>∃i:Nat,i≤L.length∧s=.int .i64 i∧Hid (∀j,j<i→Dsk.hasNl (L.getD j ⟨#[]⟩)=false)) (fun s=>L.length-(intOf s).toNat)
 case atStart=>exact⟨0,hZ _,rfl,ae fun j h=>by omega⟩
 case round=>
  obtain⟨i,hi,rfl,N1⟩:=hrel;by_cases hlt:i<L.length
  case pos=>
   have hz:(i:Int)<(L.length:Int):=om_;obtain⟨x,hx⟩:∃x,L[i]? =some x:=⟨_,iB hlt⟩;obtain⟨g,o,rfl,hcl⟩:=ac HC i x hx;have D:=nl_any x W;have XD:=ae (show L.getD i ⟨#[]⟩=x by rw[List.getD_eq_getElem?_getD,hx];rfl);cases hb:Dsk.hasNl x
   case true=>
    rw[hb]at D;have E:=ae (show Dsk.torn L=(i:Int)from Img.firstI_at (by show Dsk.hasNl (L.getD i ⟨#[]⟩)=true;rw[ac XD];exact hb) (ac N1) hlt);clear hb;go_wp2_with(go_at_fn 15;refine D.mono ?_;rintro e w0 ⟨rfl,e9⟩;rw[e9];clear e9 w0 D);go_ret;exact⟨by rw[ac E];rfl,rfl⟩
   case false=>
    rw[hb]at D;have NN:=ae (show ∀j,j<i+1→Dsk.hasNl (L.getD j ⟨#[]⟩)=false from fun j hj=>by
     by_cases e:j=i
     ·subst e;rw[ac XD];exact hb
     ·exact ac N1 j om_)
    clear hb;go_wp2_with(go_at_fn 15;refine D.mono ?_;rintro e w0 ⟨rfl,e9⟩;rw[e9];clear e9 w0 D);go_round
    case rel=>exact⟨i+1,om_,by go_num,NN⟩
    case measure=>simp[intOf];omega
  case neg=>
   have hz:¬(i:Int)<(L.length:Int):=om_;obtain rfl:i=L.length:=om_;have E:=ae (show Dsk.torn L= -1 from Img.firstI_none (ac N1));go_wp2_with fail;go_ret;exact⟨by rw[ac E];rfl,rfl⟩
end
end
section
open Go.RowKit
open Idl (Stp chk stpA strs)
theorem fp {fn:Func}{p u:Tmp}{ty:TypeId}(h:fn.results= #[.tmp u,.cell p ty])(tmps:Array Value)(P:Program)(w:World):
 (results fn tmps).run P w=((asAddr (tmps.getD p undef)).run P w).andThen fun a w₁=>((loadVar ty a).run P w₁).andThen fun v w₂=>.ok (.tuple #[tmps.getD u undef,v]) w₂:=by
 simp only[results,h];simp[Sem.run_bind,Result.andThen]
theorem cR {P:Program}{fn:Func}{p u:Tmp}{ty:TypeId}(h:fn.results= #[.tmp u,.cell p ty])(tmps:Array Value)(w:World)(g:Nat)(t:TypeId)(cs:Array Value)(fr:Nat×Nat)(d:TypeDesc)(v:Value)
 (hp:tmps.getD p undef=.pointer (some ⟨g,0,none⟩)) (hv:tmps.getD u undef=v) (hg:w.heap[g]? =some (.cells cs t fr))
 (hu:P.underlying ty=some d) (hd:(match d with|.struct _|.array _ _=>true|_=>false)=true) (hi:(P.info? ty).map (·.size)=some cs.size):
 (results fn tmps).run P w=.ok (.tuple #[v,.agg cs]) w:=by
 rw[fp h,hp,hv];simp[asAddr,run_loadVar_row w g t ty cs fr d hg hu hd hi]
theorem bn:Tryz.prog.underlying 31=some (.struct (Tryz.prog.fieldsOf 31)):=kr_
theorem aT:(Tryz.prog.info? 31).map (·.size)=some 2:=kr_
def fltA (c a:Int):Array Value:= #[.int .i64 c,.int .i64 a]
def Lns (bd bl bf bc:Nat)(W:World)(v:Value)(L:List ByteArray):Prop:=∃a c,v=.slice a L.length c∧∀(i:Nat) x,L[i]? =some x→∃g o,a=some ⟨g,o,none⟩∧(g≠bd∧g≠bl∧g≠bf∧g≠bc)∧W.cell? ⟨g,o+i,none⟩=some (.string x)
theorem Lns.wds {bd bl bf bc:Nat}{W:World}{v:Value}{L:List ByteArray}(h:Lns bd bl bf bc W v L):Wds W v L:=by
 obtain⟨a,c,e,h⟩:=h;exact⟨a,c,e,fun i x hx=>by obtain⟨g,o,e1,_,e2⟩:=h i x hx;exact⟨g,o,e1,e2⟩⟩
structure Dd (bd bl bf bc bf' bc':Nat)(W W':World):Prop where
 size:W.heap.size≤W'.heap.size
 old:∀j,j<W.heap.size→j≠bd→j≠bl→j≠bf→j≠bc→W'.heap[j]? =W.heap[j]?
 new:(bf'=bf∧bc'=bc)∨(W.heap.size≤bf'∧W.heap.size≤bc')
theorem De.dd {bd bl bf bc bf' bc':Nat}{W W':World}(h:De W.heap.size bd bl bf bc bf' bc' W W'):Dd bd bl bf bc bf' bc' W W':=⟨h.size,fun j hj h1 h2 h3 h4=>h.old j hj h1 h2 h3 h4 (.inl hj),h.new⟩
section
variable {w W W':World}{B bd bl bf bc:Nat}{S:Lv}{l:List UInt8}
theorem setRow_same {g:Nat}{cs:Array Value}{t:TypeId}(h:W.heap[g]? =some (.cells cs t)):Below W.heap.size W (W.setRow g cs):=by
 have b:=ah (gX W.heap.size W) (g:=W.heap.size) (gY _) cs;have e:=setRow_heap W g cs cs t (0,0) h;refine⟨rfl,rfl,rfl,by simp[World.setRow],fun j hj=>?_⟩;by_cases c:j=g
 ·subst c;rw[e,h]
 ·exact setRow_other _ _ _ _ c
theorem all2 (a b:Int):(#[.int .i64 a,.int .i64 b]:Array Value).all (·.oneCell')=true:=kr_
theorem do_many (h:Dk w B bd bl bf bc S [] W)(L:List ByteArray)(hL:150<L.length)(hL2:L.length≤maxLen)(v:Value)(hv:∃a c,v=.slice a L.length c):
 Calls Tryz.prog 9 #[.pointer (some ⟨bd,0,none⟩),v] W fun e w'=>e=.returned (.tuple #[.string ⟨#[]⟩,.agg (fltA 14 (-1))])∧Below W.heap.size W w':=by
 obtain⟨a,c,rfl⟩:=hv;have hz:decide ((150:Int)<(L.length:Int))=true:=by simp;omega
 have r0:(W.alloc (.cells #[.int .i64 0,.int .i64 0] 31)).heap[W.heap.size]? =some (.cells #[.int .i64 0,.int .i64 0] 31):=iV _ _;have R0:=ae r0;have B0:=ae (show Below W.heap.size W (W.alloc (.cells #[.int .i64 0,.int .i64 0] 31))from(gX _ W).alloc (gY _) _);clear h r0;unfold fltA;go_enter Tryz.func9,Tryz.ntmps9;go_wp2_with(have hx:=ac R0;refine wpList_store_row rfl 31 _ _ rfl W.heap.size #[.int .i64 14,.int .i64 (-1)] rfl rfl 31 _ hx aT rfl (all2 14 (-1)) ?_;clear hx);refine bodyPost_ret (v:=.tuple #[.string ⟨#[]⟩,.agg #[.int .i64 14,.int .i64 (-1)]]) ?_ rfl ⟨rfl,ah (ac B0) (gY _) _⟩;exact cR (P:=Tryz.prog) Tryz.results9 _ _ W.heap.size 31 _ (0,0) _ _ rfl rfl (setRow_heap _ _ _ _ _ _ (ac R0)) bn rfl aT
theorem do_torn (h:Dk w B bd bl bf bc S [] W)(L:List ByteArray)(hL:L.length≤150)(ht:0≤Dsk.torn L)(v:Value)(hv:Wds W v L):
 Calls Tryz.prog 9 #[.pointer (some ⟨bd,0,none⟩),v] W fun e w'=>e=.returned (.tuple #[.string ⟨#[]⟩,.agg (fltA 15 (Dsk.torn L))])∧Below W.heap.size W w':=by
 have r0:(W.alloc (.cells #[.int .i64 0,.int .i64 0] 31)).heap[W.heap.size]? =some (.cells #[.int .i64 0,.int .i64 0] 31):=iV _ _;have R0:=ae r0;have b0:Below W.heap.size W (W.alloc (.cells #[.int .i64 0,.int .i64 0] 31)):=(gX _ W).alloc (gY _) _;have B0:=ae b0;have T:=ae (torn_any L om_ v _ (hv.below b0));obtain⟨a,c,rfl,_⟩:=hv;generalize Dsk.torn L=tn at*;have hz:decide ((150:Int)<(L.length:Int))=false:=by simp;omega
 have hz2:decide (0≤tn)=true:=by simpa using ht
 clear h r0 b0 ht;unfold fltA;go_enter Tryz.func9,Tryz.ntmps9;go_wp2_with fail;refine(ac T).mono ?_;rintro e w1 ⟨rfl,e9⟩;rw[e9];clear e9 w1 T;go_wp2_with(have hx:=ac R0;refine wpList_store_row rfl 31 _ _ rfl W.heap.size #[.int .i64 15,.int .i64 tn] rfl rfl 31 _ hx aT rfl (all2 15 tn) ?_;clear hx);refine bodyPost_ret (v:=.tuple #[.string ⟨#[]⟩,.agg #[.int .i64 15,.int .i64 tn]]) ?_ rfl ⟨rfl,ah (ac B0) (gY _) _⟩;exact cR (P:=Tryz.prog) Tryz.results9 _ _ W.heap.size 31 _ (0,0) _ _ rfl rfl (setRow_heap _ _ _ _ _ _ (ac R0)) bn rfl aT
theorem do_fine (h:Dk w B bd bl bf bc S [] W)(tb:aW w)(L:List ByteArray)(hL:L.length≤150)(hs:∀s∈L,s.size≤50000)(ht:Dsk.torn L<0)(P:Nat→Lv)(m:Nat)(hP:Dsk.Path L P m)(h0:P 0=S)(v:Value)(hv:Lns bd bl bf bc W v L):
 Calls Tryz.prog 9 #[.pointer (some ⟨bd,0,none⟩),v] W fun e w'=>e=.returned (.tuple #[.string ⟨(Dsk.pathTell L P L.length).toArray⟩,.agg (fltA 0 0)])∧∃bf' bc',Dk w W.heap.size bd bl bf' bc' (P L.length) [] w'∧Dd bd bl bf bc bf' bc' W w':=by
 have r0:(W.alloc (.cells #[.int .i64 0,.int .i64 0] 31)).heap[W.heap.size]? =some (.cells #[.int .i64 0,.int .i64 0] 31):=iV _ _;have R0:=ae r0;have b0:Below W.heap.size W (W.alloc (.cells #[.int .i64 0,.int .i64 0] 31)):=(gX _ W).alloc (gY _) _;have H0:=ae (show Dk w W.heap.size bd bl bf bc (P 0) (Dsk.pathTell L P 0) (W.alloc (.cells #[.int .i64 0,.int .i64 0] 31))by
  rw[h0];exact(h.call b0).rebase h.lo.bel.size b0.size)
 have D0:=ae (show De W.heap.size bd bl bf bc bf bc W (W.alloc (.cells #[.int .i64 0,.int .i64 0] 31))from De.of_below b0);have T:=ae (torn_any L om_ v _ (hv.wds.below b0));have TB:=ae tb;have HP:=ae hP;have HS:=ae hs;obtain⟨a,c,rfl,hc⟩:=hv;have HC:=ae hc;generalize Dsk.torn L=tn at*;have hz:decide ((150:Int)<(L.length:Int))=false:=by simp;omega
 have hz2:decide (0≤tn)=false:=by simp;omega
 clear h r0 b0 ht tb hP hs hc h0;unfold fltA;go_enter Tryz.func9,Tryz.ntmps9;go_wp2_with fail;refine(ac T).mono ?_;rintro e w1 ⟨rfl,e9⟩;rw[e9];clear e9 w1 T;go_wp2_with fail;generalize W.alloc (.cells #[.int .i64 0,.int .i64 0] 31)=V0 at H0 D0 R0⊢;go_loopw [22] (fun s wr=>∃(k bf' bc':Nat),k≤L.length∧s=.int .i64 k∧Hid (Dk w W.heap.size bd bl bf' bc' (P k) (Dsk.pathTell L P k) wr)∧Hid (De W.heap.size bd bl bf bc bf' bc' W wr)∧Hid (wr.heap[W.heap.size]? =some (.cells #[.int .i64 0,.int .i64 0] 31))) (fun s _=>L.length-(intOf s).toNat)
 case atStart=>exact⟨0,bf,bc,hZ _,rfl,H0,D0,R0⟩
 case round=>
  clear H0 D0 R0;obtain⟨k,bf',bc',hk,rfl,H1,D1,R1⟩:=hrel;by_cases hlt:k<L.length
  case pos=>
   have hzk:(k:Int)<(L.length:Int):=om_;obtain⟨s,hs⟩:∃s,L[k]? =some s:=⟨_,iB hlt⟩;obtain⟨g,o,rfl,hg,hcl⟩:=ac HC k s hs;have hcW:wr.cell? ⟨g,o+k,none⟩=some (.string s):=by
    have hl:=Lib.lt_of_cell hcl;have e:=(ac D1).old g hl hg.1 hg.2.1 hg.2.2.1 hg.2.2.2 (.inl hl);unfold World.cell? at hcl⊢;rw[show wr.heap[(⟨g,o+k,none⟩:Addr).block]? =W.heap[(⟨g,o+k,none⟩:Addr).block]? from e];exact hcl
   have hsz:=ac HS s (List.mem_of_getElem? hs);have F:=ae (words_any s om_ wr);have E:=ae (show Dsk.pathTell L P (k+1)=Dsk.pathTell L P k++Dsk.told (P k) (Dsk.words s)by
    show Dsk.pathTell L P k++Dsk.told (P k) (Dsk.words (L.getD k ⟨#[]⟩))=_;rw[List.getD_eq_getElem?_getD,hs];rfl)
   have ST:=ae ((ac HP).step k s hs);have LN:=ae (show(Dsk.pathTell L P k).length+20000000≤140737488355328 by have:=(ac HP).len k hk;omega);have LA:=ae (fun(V:World)(B0:Nat)(v:Value)(hv:Dk w W.heap.size bd bl bf' bc' (P k) (Dsk.pathTell L P k) V)(ho:V.ownsRow B0 9 1 v (Dsk.words s).length (strs (Dsk.words s)))=>dLine_any hv ((ac HP).ok k hk) (by have:=(ac HP).few;omega) ((ac HP).neat k hk) (ac TB) (ac LN) (Dsk.words s) (fun x hx=>by have:=Dsk.words_short s x hx;omega) (by have:=Dsk.words_few s;omega) v ho);clear hcl hg hs hsz LN;generalize Dsk.words s=ws at*;go_wp2_with fail;refine(ac F).mono ?_;rintro e w2 ⟨A,rfl,hA,ho,b2⟩;have H2:=ae ((ac H1).call b2);have D2:=ae ((ac D1).trans (De.of_below b2));have R2:=ae (show w2.heap[W.heap.size]? =some (.cells #[.int .i64 0,.int .i64 0] 31)by rw[b2.block _ (gW.1 (ac R1)).1];exact ac R1);have O:=ae (ac LA w2 _ _ (ac H2) ho);clear F LA ho b2 hcW;go_wp2_with fail;refine(ac O).mono ?_;rintro e w3 ⟨rfl,bf3,bc3,h3,d3⟩;have H3:=ae (show Dk w W.heap.size bd bl bf3 bc3 (P (k+1)) (Dsk.pathTell L P (k+1)) w3 by
    rw[ac E];exact⟨ac ST _ _ _ _ _ h3.lo,h3.it,h3.d0,h3.w0,h3.b0⟩)
   have D3:=ae ((ac D2).trans d3);have R3:=ae (show w3.heap[W.heap.size]? =some (.cells #[.int .i64 0,.int .i64 0] 31)by
    have r:=ac R2;obtain⟨ds,hd⟩:=(ac H2).row;have k1:=(ac H2).lo;obtain⟨c1,c2,f⟩:=k1.fo.it;rw[d3.old _ (gW.1 r).1 (aH r hd dc_) (aH r k1.root dc_) (aH r f.root dc_) (aH r f.row dc_) (.inr (dy r dc_))];exact r)
   clear h3 d3 O H2 D2 R2 ST E;go_wp2_with fail;go_roundw
   case rel=>exact⟨k+1,bf3,bc3,om_,by go_num,H3,D3,R3⟩
   case measure=>simp[intOf];omega
  case neg=>
   have hzk:¬(k:Int)<(L.length:Int):=om_;obtain rfl:k=L.length:=om_;have SA:=ae (dString_any (ac H1));go_wp2_with fail;refine(ac SA).mono ?_;rintro e w2 ⟨rfl,f2,hb2⟩;have F2:=ae f2;have RA:=ae (dReset_any (ac H1) f2 hb2);clear SA f2 hb2;go_wp2_with fail;refine(ac RA).mono ?_;rintro e w3 ⟨rfl,h3,f3⟩;have H3:=ae h3;have D3:=ae ((ac D1).trans (De.of_df f3));have R3:=ae (show w3.heap[W.heap.size]? =some (.cells #[.int .i64 0,.int .i64 0] 31)by
    have r:=ac R1;obtain⟨ds,hd⟩:=(ac H1).row;rw[f3.old _ (gW.1 r).1 (aH r hd dc_) (.inr (dy r dc_))];exact r)
   clear h3 f3 RA;go_wp2_with(have hx:=ac R3;refine wpList_store_row rfl 31 _ _ rfl W.heap.size #[.int .i64 0,.int .i64 0] rfl rfl 31 _ hx aT rfl (all2 0 0) ?_;clear hx);have BS:Below w3.heap.size w3 (w3.setRow W.heap.size #[.int .i64 0,.int .i64 0]):=setRow_same (ac R3);refine bodyPost_ret (v:=.tuple #[.string ⟨(Dsk.pathTell L P L.length).toArray⟩,.agg #[.int .i64 0,.int .i64 0]]) ?_ rfl ⟨rfl,bf',bc',(ac H3).call BS,((ac D3).trans (De.of_below BS)).dd⟩;exact cR (P:=Tryz.prog) Tryz.results9 _ _ W.heap.size 31 _ (0,0) _ _ rfl rfl (setRow_heap _ _ _ _ _ _ (ac R3)) bn rfl aT
end
end
section
open Go.RowKit
open Idl (Stp chk stpA)
theorem Op1.eqlI {o:Oper}{ρ:Operand→Value}(x y:Operand)(ho:o.op=.binOp .eql 3 x y 3){u v:Int}(hx:ρ x=.int .i64 u)(hy:ρ y=.int .i64 v)(w:World):(execOp ρ o).run Tryz.prog w=.ok (.value (.bool (u==v))) w:=by
 unfold execOp;rw[ho];go_simp
theorem bg {ob:Nat}(b:Nat)(m:Img)(d:Int)(nm:ByteArray)(w:World)(hm:ai w b ob m):
 Calls Tryz.prog 68 #[.pointer (some ⟨b,ob,none⟩),.int .i64 d,.string nm] w fun e w'=>e=.returned (.int .i64 (m.findAt d nm.toList))∧w'=w:=by
 by_cases c:0≤d∧d<3∧nm.toList.isEmpty=false
 ·obtain⟨c0,c3,cn⟩:=c;obtain⟨k,rfl⟩:=hU c0;rw[Sft.findAt_in om_ cn];exact aE b m k om_ nm cn w hm
 ·have E:m.findAt d nm.toList= -1:=by unfold Img.findAt;rw[if_neg c]
  rw[E];clear E hm;by_cases h0:d<0
  ·have t0:decide (d<0)=true:=by simpa using h0
   clear c;go_enter Tryz.func68,Tryz.ntmps68;go_wp2_with fail;go_ret;exact⟨rfl,rfl⟩
  ·have t0:decide (d<0)=false:=by simpa using h0
   by_cases h3:3≤d
   ·have t3:decide (3≤d)=true:=by simpa using h3
    clear c;go_enter Tryz.func68,Tryz.ntmps68;go_wp2_with fail;go_ret;exact⟨rfl,rfl⟩
   ·have t3:decide (3≤d)=false:=by simpa using h3
    have hne:nm.toList.isEmpty=true:=by
     cases e:nm.toList.isEmpty
     ·exact absurd ⟨om_,om_,e⟩ c
     ·rfl
    have hnl:nm.toList=[]:=by simpa using hne
    clear c h0 h3;go_enter Tryz.func68,Tryz.ntmps68;go_wp2_with fail;go_ret;exact⟨rfl,rfl⟩
section
variable {g:Nat}{m k:Img}
theorem bSame_any (w:World)(hm:ai w g 0 m)(hok:m.check=0)(d:Int)(s:ByteArray)(e:Int)(u:ByteArray):
 Calls Tryz.prog 42 #[.pointer (some ⟨g,0,none⟩),.int .i64 d,.string s,.int .i64 e,.string u] w fun r w'=>r=.returned (.bool (Img.ssame m d s e u))∧Below w.heap.size w w':=by
 have BD:=ae ((gX w.heap.size w).drew);have HMD:=ae (hm.below (ac BD) hm.lt);by_cases h1:m.findAt d s.toList<0
 ·have E:Img.ssame m d s e u=false:=by unfold Img.ssame;rw[show decide (0≤Img.inoOf m d s)=false by have:=(Img.inoOf_neg hok).2 h1;simpa using this];rfl
  rw[E];obtain⟨v1,hv1⟩:∃v1,v1=m.findAt d s.toList:=⟨_,rfl⟩;have HV1:=ae hv1.symm;obtain⟨v2,hv2⟩:∃v2,v2=m.findAt e u.toList:=⟨_,rfl⟩;have HV2:=ae hv2.symm;have U1:=ae (show decide (0≤v1)=false by rw[hv1];simpa using h1);clear hv1 hv2 h1 E hok hm;go_enter Tryz.func42,Tryz.ntmps42;go_wp2_with fail;refine iU (S:=fun W'=>ai W' g 0 m) kr_ (ac HMD) (fun hS=>?_);refine tkQ 0 g 0 rfl hS ?_;refine tkQ 1 g 0 rfl hS ?_;refine tkQ 2 g 0 rfl hS ?_;refine tkP 3 (.int .i64 d) rfl hS ?_;refine tkP 4 (.string s) rfl hS ?_;refine tkQ 6 g 0 rfl hS ?_;refine tkQ 7 g 0 rfl hS ?_;refine tkQ 8 g 0 rfl hS ?_;refine tkP 9 (.int .i64 e) rfl hS ?_;refine tkP 10 (.string u) rfl hS ?_;generalize World.drew _=W0 at hS BD HMD⊢;refine tkO 5 rfl (fun K hK=>?_);go_simp;refine(bg g m d s W0 hS).mono ?_;rintro e1 wq ⟨rfl,e9⟩;rw[e9];clear e9 wq;rw[ac HV1];go_wp2_with fail;refine hK.out _ _ hS (fun hS2=>?_);clear hK K;try simp only[Zsm]
  refine tkO 11 rfl (fun K hK=>?_);go_simp;refine(bg g m e u W0 hS).mono ?_;rintro e1 wq ⟨rfl,e9⟩;rw[e9];clear e9 wq;rw[ac HV2];go_wp2_with fail;refine hK.out _ _ hS2 (fun hS3=>?_);clear hK K;try simp only[Zsm]
  refine tkP 12 (.int .i64 v1) rfl hS3 ?_;refine tkP 13 (.int .i64 v2) rfl hS3 ?_;refine tkD ?_;clear hS hS2 hS3;have BD2:=ae ((ac BD).drew);have HMD2:=ae ((ac HMD).below (gX _ _).drew (ac HMD).lt);go_wp2_with fail;refine iU (S:=fun W'=>ai W' g 0 m) kr_ (ac HMD2) (fun hS=>?_);refine tkP 0 (.int .i64 v1) rfl hS ?_;refine tkH 1 (.bool false) rfl (fun W h=>(by rw[←ac U1];exact Op1.geq0 (.tmp 25) kr_ kr_ kr_ W)) hS ?_;refine tkP 2 (.bool false) rfl hS ?_;refine tkN 3 rfl hS ?_;refine tkN 4 rfl hS ?_;refine tkP 5 (.bool false) rfl hS ?_;refine tkP 6 (.bool false) rfl hS ?_;refine tkN 7 rfl hS ?_;refine tkN 8 rfl hS ?_;refine tkN 9 rfl hS ?_;refine tkN 10 rfl hS ?_;refine tkN 11 rfl hS ?_;refine tkN 12 rfl hS ?_;refine tkN 13 rfl hS ?_;refine tkN 14 rfl hS ?_;refine tkN 15 rfl hS ?_;refine tkN 16 rfl hS ?_;refine tkN 17 rfl hS ?_;refine tkN 18 rfl hS ?_;refine tkN 19 rfl hS ?_;refine tkN 20 rfl hS ?_;refine tkN 21 rfl hS ?_;refine tkN 22 rfl hS ?_;refine tkN 23 rfl hS ?_;refine tkN 24 rfl hS ?_;refine tkN 25 rfl hS ?_;refine tkN 26 rfl hS ?_;refine tkN 27 rfl hS ?_;refine tkP 28 (.bool false) rfl hS ?_;refine tkP 29 (.bool false) rfl hS ?_;refine tkD ?_;clear hS;go_wp2_with fail;go_ret;exact⟨rfl,ac BD2⟩
 ·obtain⟨j,n,hT⟩:=Img.there hok (d:=d) (s:=s) (by have:=(Img.inoOf_neg hok (d:=d) (s:=s));omega);by_cases h2:m.findAt e u.toList<0
  ·have E:Img.ssame m d s e u=false:=by
    unfold Img.ssame;have:=(Img.inoOf_neg hok).2 h2;rw[hT.of,show((n:Int)==Img.inoOf m e u)=false by simp;omega,Bool.and_false]
   rw[E];have HV1:=ae hT.at_;obtain⟨v2,hv2⟩:∃v2,v2=m.findAt e u.toList:=⟨_,rfl⟩;have HV2:=ae hv2.symm;have U2:=ae (show decide (0≤v2)=false by rw[hv2];simpa using h2);have U1:=ae (show decide (0≤(j:Int))=true by simp);clear hv2 h1 h2 E hok hm hT;go_enter Tryz.func42,Tryz.ntmps42;go_wp2_with fail;refine iU (S:=fun W'=>ai W' g 0 m) kr_ (ac HMD) (fun hS=>?_);refine tkQ 0 g 0 rfl hS ?_;refine tkQ 1 g 0 rfl hS ?_;refine tkQ 2 g 0 rfl hS ?_;refine tkP 3 (.int .i64 d) rfl hS ?_;refine tkP 4 (.string s) rfl hS ?_;refine tkQ 6 g 0 rfl hS ?_;refine tkQ 7 g 0 rfl hS ?_;refine tkQ 8 g 0 rfl hS ?_;refine tkP 9 (.int .i64 e) rfl hS ?_;refine tkP 10 (.string u) rfl hS ?_;generalize World.drew _=W0 at hS BD HMD⊢;refine tkO 5 rfl (fun K hK=>?_);go_simp;refine(bg g m d s W0 hS).mono ?_;rintro e1 wq ⟨rfl,e9⟩;rw[e9];clear e9 wq;rw[ac HV1];go_wp2_with fail;refine hK.out _ _ hS (fun hS2=>?_);clear hK K;try simp only[Zsm]
   refine tkO 11 rfl (fun K hK=>?_);go_simp;refine(bg g m e u W0 hS).mono ?_;rintro e1 wq ⟨rfl,e9⟩;rw[e9];clear e9 wq;rw[ac HV2];go_wp2_with fail;refine hK.out _ _ hS2 (fun hS3=>?_);clear hK K;try simp only[Zsm]
   refine tkP 12 (.int .i64 (j:Int)) rfl hS3 ?_;refine tkP 13 (.int .i64 v2) rfl hS3 ?_;refine tkD ?_;clear hS hS2 hS3;have BD2:=ae ((ac BD).drew);have HMD2:=ae ((ac HMD).below (gX _ _).drew (ac HMD).lt);go_wp2_with fail;refine iU (S:=fun W'=>ai W' g 0 m) kr_ (ac HMD2) (fun hS=>?_);refine tkP 0 (.int .i64 (j:Int)) rfl hS ?_;refine tkH 1 (.bool true) rfl (fun W h=>(by rw[←ac U1];exact Op1.geq0 (.tmp 25) kr_ kr_ kr_ W)) hS ?_;refine tkP 2 (.bool true) rfl hS ?_;refine tkP 3 (.int .i64 v2) rfl hS ?_;refine tkH 4 (.bool false) rfl (fun W h=>(by rw[←ac U2];exact Op1.geq0 (.tmp 28) kr_ kr_ kr_ W)) hS ?_;refine tkP 5 (.bool false) rfl hS ?_;refine tkP 6 (.bool false) rfl hS ?_;refine tkN 7 rfl hS ?_;refine tkN 8 rfl hS ?_;refine tkN 9 rfl hS ?_;refine tkN 10 rfl hS ?_;refine tkN 11 rfl hS ?_;refine tkN 12 rfl hS ?_;refine tkN 13 rfl hS ?_;refine tkN 14 rfl hS ?_;refine tkN 15 rfl hS ?_;refine tkN 16 rfl hS ?_;refine tkN 17 rfl hS ?_;refine tkN 18 rfl hS ?_;refine tkN 19 rfl hS ?_;refine tkN 20 rfl hS ?_;refine tkN 21 rfl hS ?_;refine tkN 22 rfl hS ?_;refine tkN 23 rfl hS ?_;refine tkN 24 rfl hS ?_;refine tkN 25 rfl hS ?_;refine tkN 26 rfl hS ?_;refine tkN 27 rfl hS ?_;refine tkP 28 (.bool false) rfl hS ?_;refine tkP 29 (.bool false) rfl hS ?_;refine tkD ?_;clear hS;go_wp2_with fail;go_ret;exact⟨rfl,ac BD2⟩
  ·obtain⟨j2,n2,hT2⟩:=Img.there hok (d:=e) (s:=u) (by have:=(Img.inoOf_neg hok (d:=e) (s:=u));omega);have E:Img.ssame m d s e u=((n:Int)==(n2:Int)):=by
    unfold Img.ssame;rw[hT.of,hT2.of,show decide (0≤(n:Int))=true by simp,Bool.true_and]
   rw[E];have HV1:=ae hT.at_;have HV2:=ae hT2.at_;have U1:=ae (show decide (0≤(j:Int))=true by simp);have U2:=ae (show decide (0≤(j2:Int))=true by simp);have hj4:=hT.k4;have hj2:=hT2.k4;have a0:=hT.d0;have a3:=hT.d3;have b0:=hT2.d0;have b3:=hT2.d3;obtain⟨d,rfl⟩:=hU a0;obtain⟨e,rfl⟩:=hU b0;have hd3:d<3:=om_;have he3:e<3:=om_;have HI1:=ae (show m.ino d j=(n:Int)from hT.ino);have HI2:=ae (show m.ino e j2=(n2:Int)from hT2.ino);clear h1 h2 E hok hm hT hT2 a0 a3 b0 b3;go_enter Tryz.func42,Tryz.ntmps42;go_wp2_with fail;refine iU (S:=fun W'=>ai W' g 0 m) kr_ (ac HMD) (fun hS=>?_);refine tkQ 0 g 0 rfl hS ?_;refine tkQ 1 g 0 rfl hS ?_;refine tkQ 2 g 0 rfl hS ?_;refine tkP 3 (.int .i64 (d:Int)) rfl hS ?_;refine tkP 4 (.string s) rfl hS ?_;refine tkQ 6 g 0 rfl hS ?_;refine tkQ 7 g 0 rfl hS ?_;refine tkQ 8 g 0 rfl hS ?_;refine tkP 9 (.int .i64 (e:Int)) rfl hS ?_;refine tkP 10 (.string u) rfl hS ?_;generalize World.drew _=W0 at hS BD HMD⊢;refine tkO 5 rfl (fun K hK=>?_);go_simp;refine(bg g m (d:Int) s W0 hS).mono ?_;rintro e1 wq ⟨rfl,e9⟩;rw[e9];clear e9 wq;rw[ac HV1];go_wp2_with fail;refine hK.out _ _ hS (fun hS2=>?_);clear hK K;try simp only[Zsm]
   refine tkO 11 rfl (fun K hK=>?_);go_simp;refine(bg g m (e:Int) u W0 hS).mono ?_;rintro e1 wq ⟨rfl,e9⟩;rw[e9];clear e9 wq;rw[ac HV2];go_wp2_with fail;refine hK.out _ _ hS2 (fun hS3=>?_);clear hK K;try simp only[Zsm]
   refine tkP 12 (.int .i64 (j:Int)) rfl hS3 ?_;refine tkP 13 (.int .i64 (j2:Int)) rfl hS3 ?_;refine tkD ?_;clear hS hS2 hS3;have BD2:=ae ((ac BD).drew);have HMD2:=ae ((ac HMD).below (gX _ _).drew (ac HMD).lt);go_wp2_with fail;refine iU (S:=fun W'=>ai W' g 0 m) kr_ (ac HMD2) (fun hS=>?_);refine tkP 0 (.int .i64 (j:Int)) rfl hS ?_;refine tkH 1 (.bool true) rfl (fun W h=>(by rw[←ac U1];exact Op1.geq0 (.tmp 25) kr_ kr_ kr_ W)) hS ?_;refine tkP 2 (.bool true) rfl hS ?_;refine tkP 3 (.int .i64 (j2:Int)) rfl hS ?_;refine tkH 4 (.bool true) rfl (fun W h=>(by rw[←ac U2];exact Op1.geq0 (.tmp 28) kr_ kr_ kr_ W)) hS ?_;refine tkP 5 (.bool true) rfl hS ?_;refine tkP 6 (.bool true) rfl hS ?_;refine tkQ 7 g 0 rfl hS ?_;refine tkP 8 (.int .i64 (d:Int)) rfl hS ?_;refine tkP 9 (.int .i64 (j:Int)) rfl hS ?_;refine tkQ 10 g 0 rfl hS ?_;refine tkQ 11 g 0 rfl hS ?_;refine tkQ 12 g 40 rfl hS ?_;refine tkH 13 (.pointer (some ⟨g,40+d*12,none⟩)) rfl (fun W h=>Op1.ix_dir _ _ rfl kr_ kr_ hd3 W) hS ?_;refine tkH 14 (.pointer (some ⟨g,40+d*12+j*3,none⟩)) rfl (fun W h=>Op1.ix_slot _ _ rfl kr_ kr_ hj4 W) hS ?_;refine tkP 15 (.pointer (some ⟨g,40+d*12+j*3+1,none⟩)) rfl hS ?_;refine tkH 16 (.int .i64 (n:Int)) rfl (fun W h=>Op1.ld_int _ rfl kr_ W (by have:=h.ino d j hd3 hj4;rw[ac HI1,hY]at this;exact this)) hS ?_;refine tkQ 17 g 0 rfl hS ?_;refine tkP 18 (.int .i64 (e:Int)) rfl hS ?_;refine tkP 19 (.int .i64 (j2:Int)) rfl hS ?_;refine tkQ 20 g 0 rfl hS ?_;refine tkQ 21 g 0 rfl hS ?_;refine tkQ 22 g 40 rfl hS ?_;refine tkH 23 (.pointer (some ⟨g,40+e*12,none⟩)) rfl (fun W h=>Op1.ix_dir _ _ rfl kr_ kr_ he3 W) hS ?_;refine tkH 24 (.pointer (some ⟨g,40+e*12+j2*3,none⟩)) rfl (fun W h=>Op1.ix_slot _ _ rfl kr_ kr_ hj2 W) hS ?_;refine tkP 25 (.pointer (some ⟨g,40+e*12+j2*3+1,none⟩)) rfl hS ?_;refine tkH 26 (.int .i64 (n2:Int)) rfl (fun W h=>Op1.ld_int _ rfl kr_ W (by have:=h.ino e j2 he3 hj2;rw[ac HI2,hY]at this;exact this)) hS ?_;refine tkH 27 (.bool ((n:Int)==(n2:Int))) rfl (fun W h=>Op1.eqlI _ _ rfl kr_ kr_ W) hS ?_;refine tkP 28 (.bool ((n:Int)==(n2:Int))) rfl hS ?_;refine tkP 29 (.bool ((n:Int)==(n2:Int))) rfl hS ?_;refine tkD ?_;clear hS;go_wp2_with fail;go_ret;exact⟨rfl,ac BD2⟩
theorem bSure_any (w:World)(hm:ai w g 0 m)(hk:ai w g 94 k)(d:Int)(s:ByteArray):
 Calls Tryz.prog 43 #[.pointer (some ⟨g,0,none⟩),.int .i64 d,.string s] w fun r w'=>r=.returned (.bool (Img.ssure m k d s))∧Below w.heap.size w w':=by
 have C1:=ae (bg g m d s w hm);have BD:=ae ((gX w.heap.size w).drew);have HMD:=ae (And.intro (hm.below (ac BD) hm.lt) (hk.below (ac BD) hk.lt));by_cases hf:m.findAt d s.toList<0
 ·have e1:Img.ssure m k d s=false:=by unfold Img.ssure;rw[show decide (0≤m.findAt d s.toList)=false by simp;omega];rfl
  rw[e1];have U1:=ae (show decide (0≤m.findAt d s.toList)=false by simp;omega);generalize m.findAt d s.toList=v at C1 U1;clear hf hm hk e1;go_enter Tryz.func43,Tryz.ntmps43;go_wp2_with fail;refine(ac C1).mono ?_;rintro e wq ⟨rfl,e9⟩;rw[e9];clear e9 wq;go_wp2_with fail;refine iU (S:=fun W'=>ai W' g 0 m∧ai W' g 94 k) kr_ (ac HMD) (fun hS=>?_);refine tkP 0 (.int .i64 v) rfl hS ?_;refine tkH 1 (.bool false) rfl (fun W h=>(by rw[←ac U1];exact Op1.geq0 (.tmp 14) kr_ kr_ kr_ W)) hS ?_;refine tkP 2 (.bool false) rfl hS ?_;refine tkN 3 rfl hS ?_;refine tkN 4 rfl hS ?_;refine tkN 5 rfl hS ?_;refine tkN 6 rfl hS ?_;refine tkN 7 rfl hS ?_;refine tkN 8 rfl hS ?_;refine tkN 9 rfl hS ?_;refine tkN 10 rfl hS ?_;refine tkN 11 rfl hS ?_;refine tkN 12 rfl hS ?_;refine tkN 13 rfl hS ?_;refine tkN 14 rfl hS ?_;refine tkN 15 rfl hS ?_;refine tkN 16 rfl hS ?_;refine tkN 17 rfl hS ?_;refine tkN 18 rfl hS ?_;refine tkN 19 rfl hS ?_;refine tkN 20 rfl hS ?_;refine tkN 21 rfl hS ?_;refine tkP 22 (.bool false) rfl hS ?_;refine tkP 23 (.bool false) rfl hS ?_;refine tkD ?_;clear hS;go_wp2_with fail;go_ret;exact⟨rfl,ac BD⟩
 ·obtain⟨⟨d0,d3⟩,_,j,hj,e1,_,_⟩:=Img.findAt_some (Int.not_lt.1 hf);obtain⟨dd,rfl⟩:=hU d0;have hd:dd<3:=om_;have e2:Img.ssure m k (dd:Int) s=((m.name dd j).toList==(k.name dd j).toList&&m.ino dd j==k.ino dd j&&m.est dd j==k.est dd j):=by unfold Img.ssure;rw[e1,g_,g_,show decide (0≤(j:Int))=true by simp,Bool.true_and];rfl
  rw[e2];rw[e1]at C1;have U1:=ae (show decide (0≤(j:Int))=true by simp);clear hf hm hk e1 e2 d0 d3;go_enter Tryz.func43,Tryz.ntmps43;go_wp2_with fail;refine(ac C1).mono ?_;rintro e wq ⟨rfl,e9⟩;rw[e9];clear e9 wq;go_wp2_with fail;refine iU (S:=fun W'=>ai W' g 0 m∧ai W' g 94 k) kr_ (ac HMD) (fun hS=>?_);refine tkP 0 (.int .i64 (j:Int)) rfl hS ?_;refine tkH 1 (.bool true) rfl (fun W h=>(by rw[←ac U1];exact Op1.geq0 (.tmp 14) kr_ kr_ kr_ W)) hS ?_;refine tkP 2 (.bool true) rfl hS ?_;refine tkQ 3 g 0 rfl hS ?_;refine tkP 4 (.int .i64 (dd:Int)) rfl hS ?_;refine tkP 5 (.int .i64 (j:Int)) rfl hS ?_;refine tkQ 6 g 0 rfl hS ?_;refine tkQ 7 g 0 rfl hS ?_;refine tkQ 8 g 40 rfl hS ?_;refine tkH 9 (.pointer (some ⟨g,40+dd*12,none⟩)) rfl (fun W h=>Op1.ix_dir _ _ rfl kr_ kr_ hd W) hS ?_;refine tkH 10 (.pointer (some ⟨g,40+dd*12+j*3,none⟩)) rfl (fun W h=>Op1.ix_slot _ _ rfl kr_ kr_ hj W) hS ?_;refine tkH 11 (.agg #[.string (m.name dd j),.int .i64 (m.ino dd j),.int .i64 (m.est dd j)]) rfl (fun W h=>Op1.ld_ent _ rfl kr_ W (by have:=h.1.name dd j hd hj;simpa using this) (by have:=h.1.ino dd j hd hj;simpa using this) (by have:=h.1.est dd j hd hj;simpa using this)) hS ?_;refine tkQ 12 g 0 rfl hS ?_;refine tkP 13 (.int .i64 (dd:Int)) rfl hS ?_;refine tkP 14 (.int .i64 (j:Int)) rfl hS ?_;refine tkQ 15 g 0 rfl hS ?_;refine tkQ 16 g 94 rfl hS ?_;refine tkQ 17 g 134 rfl hS ?_;refine tkH 18 (.pointer (some ⟨g,134+dd*12,none⟩)) rfl (fun W h=>Op1.ix_dir _ _ rfl kr_ kr_ hd W) hS ?_;refine tkH 19 (.pointer (some ⟨g,134+dd*12+j*3,none⟩)) rfl (fun W h=>Op1.ix_slot _ _ rfl kr_ kr_ hj W) hS ?_;refine tkH 20 (.agg #[.string (k.name dd j),.int .i64 (k.ino dd j),.int .i64 (k.est dd j)]) rfl (fun W h=>Op1.ld_ent _ rfl kr_ W (by have:=h.2.name dd j hd hj;simpa using this) (by have:=h.2.ino dd j hd hj;simpa using this) (by have:=h.2.est dd j hd hj;simpa using this)) hS ?_;refine tkH 21 (.bool ((m.name dd j).toList==(k.name dd j).toList&&m.ino dd j==k.ino dd j&&m.est dd j==k.est dd j)) rfl (fun W h=>Op1.eq_ent _ _ rfl kr_ kr_ W) hS ?_;refine tkP 22 (.bool ((m.name dd j).toList==(k.name dd j).toList&&m.ino dd j==k.ino dd j&&m.est dd j==k.est dd j)) rfl hS ?_;refine tkP 23 (.bool ((m.name dd j).toList==(k.name dd j).toList&&m.ino dd j==k.ino dd j&&m.est dd j==k.est dd j)) rfl hS ?_;refine tkD ?_;clear hS;go_wp2_with fail;go_ret;exact⟨rfl,ac BD⟩
theorem bRead_any (w:World)(hm:ai w g 0 m)(hok:m.check=0)(d:Int)(s:ByteArray)(hs:s.size≤maxLen)(p:Int):
 Calls Tryz.prog 38 #[.pointer (some ⟨g,0,none⟩),.int .i64 d,.string s,.int .i64 p] w fun r w'=>r=.returned (.tuple #[.string (Img.sreadT m d s p),.bool (Img.sreadB m d s p),.int .i64 (Img.sreadC m d s p)])∧Below w.heap.size w w':=by
 have C1:=ae (Idl.stepFault_any (Idl.cut d s p) hs (hZ _) (hZ _) w);have HB:=ae fun W (bW:Below w.heap.size w W)=>hm.below bW hm.lt
 by_cases hc0:chk (Idl.cut d s p)=0
 ·rw[hc0]at C1;by_cases hf:m.findAt d s.toList<0
  ·have hi:=(Img.inoOf_neg hok (d:=d) (s:=s)).2 hf;have eC:Img.sreadC m d s p=5:=by
    unfold Img.sreadC Img.scheck;rw[if_neg (by rw[hc0];simp),if_neg (by show ¬(6:Int)=1;omega),if_pos (show Img.inoOf m (Idl.cut d s p).dir (Idl.cut d s p).name<0 from hi)]
   have eB:Img.sreadB m d s p=false:=by unfold Img.sreadB;rw[if_pos (by rw[eC];simp)]
   have eT:Img.sreadT m d s p=⟨#[]⟩:=by unfold Img.sreadT;rw[if_pos (by rw[eC];simp)]
   rw[eC,eB,eT];have C2:=ae fun W (bW:Below w.heap.size w W)=>bg g m d s W (ac HB W bW)
   obtain⟨v,hv⟩:∃v,v=m.findAt d s.toList:=⟨_,rfl⟩;rw[←hv]at C2 hf;have u1:decide (v<0)=true:=by simpa using hf
   simp only[Idl.cut,stpA,Idl.none0]at C1;clear eC eB eT hi hv hok hm hc0 hf;go_enter Tryz.func38,Tryz.ntmps38;go_wp2_with fail;refine(ac C1).mono ?_;rintro e w1 ⟨rfl,b1⟩;have B1:=ae b1;clear b1;go_wp2_with fail;refine(ac C2 _ (ac B1)).mono ?_;rintro e wq ⟨rfl,e9⟩;rw[e9];clear e9 wq;go_wp2_with fail;go_ret3;exact⟨rfl,ac B1⟩
  ·obtain⟨j,n,hT⟩:=Img.there hok (d:=d) (s:=s) (by have:=(Img.inoOf_neg hok (d:=d) (s:=s));omega);obtain⟨_,_,_,_,_,a6⟩:=Img.chk_names hc0;have a7:0≤p∧p<2:=a6 (.inr rfl);obtain⟨q,rfl⟩:=hU a7.1;have hq:q<2:=om_;have eC:Img.sreadC m d s (q:Int)=0:=by
    unfold Img.sreadC Img.scheck;rw[if_neg (by rw[hc0];simp),if_neg (by show ¬(6:Int)=1;omega),if_neg (show ¬Img.inoOf m (Idl.cut d s (q:Int)).dir (Idl.cut d s (q:Int)).name<0 by show ¬Img.inoOf m d s<0;rw[hT.of];omega),if_neg (fun z=>by rcases z.1 with z|z<;>(revert z;show ¬(6:Int)=_;omega))]
   have e1:Img.spart m d s (q:Int)=m.part n q:=by unfold Img.spart;rw[hT.of,g_,g_]
   have eB:Img.sreadB m d s (q:Int)= !decide (m.part n q<0):=by unfold Img.sreadB;rw[if_neg (by rw[eC];simp),e1]
   have eT:Img.sreadT m d s (q:Int)=if m.part n q<0 then⟨#[]⟩else m.text (m.part n q).toNat:=by unfold Img.sreadT;rw[if_neg (by rw[eC];simp),e1]
   rw[eC,eB,eT];have hpt:=(Img.checkPart_iff.1 ((Img.inode_parts_ok hok hT.n8 hT.live).2.2 q hq));have C2:=ae fun W (bW:Below w.heap.size w W)=>bg g m d s W (ac HB W bW)
   rw[hT.at_]at C2;have hj4:=hT.k4;have hn8:=hT.n8;have d0:=hT.d0;have d3:=hT.d3;obtain⟨d,rfl⟩:=hU d0;have hd3:d<3:=om_;have HI:=ae (show m.ino d j=(n:Int)from hT.ino);have jn:decide ((j:Int)<0)=false:=sp_;simp only[Idl.cut,stpA,Idl.none0]at C1;clear eC eB eT e1 hT hok hm hc0 hf d0 d3 a6 a7;obtain⟨pv,hpv⟩:∃pv,pv=m.part n q:=⟨_,rfl⟩;have HP:=ae hpv.symm;rw[←hpv]at hpt⊢;clear hpv;go_enter Tryz.func38,Tryz.ntmps38;go_wp2_with fail;refine(ac C1).mono ?_;rintro e w1 ⟨rfl,b1⟩;have B1:=ae b1;have BD:=ae b1.drew;clear b1;go_wp2_with fail;refine(ac C2 _ (ac B1)).mono ?_;rintro e wq ⟨rfl,e9⟩;rw[e9];clear e9 wq;go_wp2_with fail;refine iU (S:=fun W'=>ai W' g 0 m) kr_ (ac HB _ (ac BD)) (fun hS=>?_);refine tkQ 0 g 0 rfl hS ?_;refine tkQ 1 g 0 rfl hS ?_;refine tkP 2 (.int .i64 (d:Int)) rfl hS ?_;refine tkP 3 (.int .i64 (j:Int)) rfl hS ?_;refine tkQ 4 g 0 rfl hS ?_;refine tkQ 5 g 0 rfl hS ?_;refine tkQ 6 g 40 rfl hS ?_;refine tkH 7 (.pointer (some ⟨g,40+d*12,none⟩)) rfl (fun W h=>Op1.ix_dir _ _ rfl kr_ kr_ hd3 W) hS ?_;refine tkH 8 (.pointer (some ⟨g,40+d*12+j*3,none⟩)) rfl (fun W h=>Op1.ix_slot _ _ rfl kr_ kr_ hj4 W) hS ?_;refine tkP 9 (.pointer (some ⟨g,40+d*12+j*3+1,none⟩)) rfl hS ?_;refine tkH 10 (.int .i64 (n:Int)) rfl (fun W h=>Op1.ld_int _ rfl kr_ W (by have:=h.ino d j hd3 hj4;rw[ac HI,hY]at this;exact this)) hS ?_;refine tkP 11 (.int .i64 (q:Int)) rfl hS ?_;refine tkQ 12 g 0 rfl hS ?_;refine tkQ 13 g 0 rfl hS ?_;refine tkQ 14 g 0 rfl hS ?_;refine tkH 15 (.pointer (some ⟨g,n*5,none⟩)) rfl (fun W h=>Op1.ix_ino _ _ rfl kr_ kr_ hn8 W) hS ?_;refine tkP 16 (.pointer (some ⟨g,n*5+3,none⟩)) rfl hS ?_;refine tkH 17 (.pointer (some ⟨g,n*5+3+q,none⟩)) rfl (fun W h=>Op1.ix_part _ _ rfl kr_ kr_ hq W) hS ?_;refine tkH 18 (.int .i64 pv) rfl (fun W h=>Op1.ld_int _ rfl kr_ W (by have:=h.part n q hn8 hq;rw[ac HP,hY]at this;exact this)) hS ?_;refine tkP 19 (.int .i64 pv) rfl hS ?_;refine tkD ?_;clear hS;generalize w1.drew=W0 at BD⊢;rcases hpt with rfl|⟨z,_⟩
   ·go_wp2_with fail;go_ret3;exact⟨rfl,ac BD⟩
   ·have hb:0≤pv∧pv<9:=by simpa[Img.isD]using z
    obtain⟨x,rfl⟩:=hU hb.1;have hx9:x<9:=om_;have xz:(x:Int)<9:=om_;have xn:decide ((x:Int)<0)=false:=sp_;have tx:W0.cell? ⟨g,76+x*2+1,none⟩=some (.string (m.text x)):=by
     have:=(ac HB _ (ac BD)).text x hx9;simpa using this
    have XT:=ae (show Ending.returned (.tuple #[.string (m.text x),.bool true,.int .i64 0])=Ending.returned (.tuple #[.string (if(x:Int)<0 then(⟨#[]⟩:ByteArray)else m.text (x:Int).toNat),.bool (!decide ((x:Int)<0)),.int .i64 0])by rw[if_neg (show ¬(x:Int)<0 by omega),g_,xn];rfl);clear z hb;go_wp2_with fail;go_ret3;exact⟨ac XT,ac BD⟩
 ·have eC:Img.sreadC m d s p=chk (Idl.cut d s p):=by
   unfold Img.sreadC Img.scheck;rw[if_pos hc0]
  have eB:Img.sreadB m d s p=false:=by unfold Img.sreadB;rw[if_pos (by rw[eC];exact hc0)]
  have eT:Img.sreadT m d s p=⟨#[]⟩:=by unfold Img.sreadT;rw[if_pos (by rw[eC];exact hc0)]
  rw[eC,eB,eT];have u1:(chk (Idl.cut d s p) !=0)=true:=by simpa using hc0
  generalize chk (Idl.cut d s p)=cd at C1 u1;simp only[Idl.cut,stpA,Idl.none0]at C1;clear eC eB eT hok hm hc0;go_enter Tryz.func38,Tryz.ntmps38;go_wp2_with fail;refine(ac C1).mono ?_;rintro e w1 ⟨rfl,b1⟩;have B1:=ae b1;clear b1;go_wp2_with fail;go_ret3;exact⟨rfl,ac B1⟩
end
end
end Go.Proofs.YtfpfpnhpbnnmfadGreatDoor
