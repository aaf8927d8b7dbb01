import Derived.Test.YtfpfpnhpbnnmfadGreatDoorXaa
import Derived.Test.YtfpfpnhpbnnmfadGreatDoorXau
import Derived.Test.YtfpfpnhpbnnmfadGreatDoorXar
import Derived.Lib.AtoiAllCases
import Derived.Shelf.Strings.Search3
import Derived.Shelf.Strings.FieldsFuncAny
import Derived.Shelf.Strconv.AtoiAll
import Derived.Shelf.Pu.Clone
import Derived.Test.YtfpfpnhpbnnmfadGreatDoorProg
import Derived.Laws.MakeOwn
import Derived.Laws.OwnMore
import Derived.Test.YtfpfpnhpbnnmfadGreatDoorXaq
import Derived.Test.YtfpfpnhpbnnmfadGreatDoorXay
import Derived.Test.YtfpfpnhpbnnmfadGreatDoorXag
set_option maxHeartbeats 40000000
set_option maxRecDepth 100000
set_option linter.unusedVariables false
namespace Go.Proofs.YtfpfpnhpbnnmfadGreatDoor
section
open Go.RowKit
open Idl (Stp chk stpA strs)
def NB (W:World)(j:Nat):Prop:=∀cs f,W.heap[j]? ≠some (.cells cs 5 f)
theorem dy {W:World}{j:Nat}{cs:Array Value}{t:TypeId}{f:Nat×Nat}(h:W.heap[j]? =some (.cells cs t f))(ht:t≠5):NB W j:=fun _ _ e=>by
 rw[h]at e;cases e;exact ht rfl
theorem nb_same {W W':World}{j:Nat}(h:NB W j)(e:W'.heap[j]? =W.heap[j]?):NB W' j:=fun cs f=>by rw[e];exact h cs f
structure Df (B bd:Nat)(W W':World):Prop where
 os:W'.os=W.os
 tape:W'.tape=W.tape
 output:W'.output=W.output
 size:W.heap.size≤W'.heap.size
 old:∀j,j<W.heap.size→j≠bd→(j<B∨NB W j)→W'.heap[j]? =W.heap[j]?
theorem Df.refl (B bd:Nat)(W:World):Df B bd W W:=⟨rfl,rfl,rfl,gY _,fun _ _ _ _=>rfl⟩
theorem Df.of_below {B bd:Nat}{W W':World}(h:Below W.heap.size W W'):Df B bd W W':=⟨h.os,h.tape,h.output,h.size,fun j hj _ _=>h.block j hj⟩
theorem Df.trans {B bd:Nat}{W W1 W2:World}(h:Df B bd W W1)(k:Df B bd W1 W2):Df B bd W W2:=by
 refine⟨k.os.trans h.os,k.tape.trans h.tape,k.output.trans h.output,h_ h.size k.size,fun j hj hn ho=>?_⟩;have e:=h.old j hj hn ho;rw[k.old j (ij hj h.size) hn (by rcases ho with z|z;exact .inl z;exact .inr (nb_same z e)),e]
theorem Df.below {B bd n:Nat}{W W':World}(h:Df B bd W W')(hn:n≤W.heap.size)(hB:n≤B)(hd:n≤bd):Below n W W':=
 ⟨h.os,h.tape,h.output,h.size,fun j hj=>h.old j om_ om_ (.inl om_)⟩
structure Dk (w:World)(B bd bl bf bc:Nat)(S:Lv)(l:List UInt8)(W:World):Prop where
 lo:Lo w bl bf bc S W
 it:∃p v,(p=.pointer none∨p=.pointer (some ⟨bd,0,none⟩))∧W.heap[bd]? =some (.cells #[p,v,.pointer (some ⟨bl,0,none⟩)] 46 (0,0))∧W.ownsRow B 5 1 v l.length (Lib.byteCells l)∧(l=[]→v=.slice none 0 0)
 d0:w.heap.size≤bd
 w0:w.heap.size≤B
 b0:B≤W.heap.size
section
variable {w W W':World}{B bd bl bf bc:Nat}{S:Lv}{l:List UInt8}
theorem Dk.lt (h:Dk w B bd bl bf bc S l W):bd<W.heap.size:=by
 obtain⟨p,v,_,hb,_⟩:=h.it;exact(gW.1 hb).1
theorem Dk.lif (h:Dk w B bd bl bf bc S l W):W.cell? ⟨bd,2,none⟩=some (.pointer (some ⟨bl,0,none⟩)):=by
 obtain⟨p,v,_,hb,_⟩:=h.it;rw[Lib.cell_of_heap hb];rfl
theorem Dk.nb (h:Dk w B bd bl bf bc S l W):NB W bd:=by
 obtain⟨p,v,_,hb,_⟩:=h.it;exact dy hb dc_
theorem Lo.nbl (h:Lo w bl bf bc S W):NB W bl:=dy h.root dc_
theorem Lo.nbf (h:Lo w bl bf bc S W):NB W bf:=by
 obtain⟨cs,ds,f⟩:=h.fo.it;exact dy f.root dc_
theorem Lo.nbc (h:Lo w bl bf bc S W):NB W bc:=by
 obtain⟨cs,ds,f⟩:=h.fo.it;exact dy f.row dc_
theorem Lo.flt (h:Lo w bl bf bc S W):bf<W.heap.size:=h.fo.cells.2.1
theorem Lo.clt (h:Lo w bl bf bc S W):bc<W.heap.size:=h.fo.cells.2.2.1
theorem aH {W:World}{i j:Nat}{cs ds:Array Value}{t u:TypeId}{f g:Nat×Nat}(h1:W.heap[i]? =some (.cells cs t f))(h2:W.heap[j]? =some (.cells ds u g))(ht:t≠u):i≠j:=fun e=>by
 subst e;rw[h1]at h2;cases h2;exact ht rfl
theorem Dk.ne (h:Dk w B bd bl bf bc S l W):bd≠bl∧bd≠bf∧bd≠bc:=by
 obtain⟨p,v,_,hb,_⟩:=h.it;obtain⟨cs,ds,f⟩:=h.lo.fo.it;exact⟨aH hb h.lo.root dc_,aH hb f.root dc_,aH hb f.row dc_⟩
theorem Lo.same (h:Lo w bl bf bc S W)(hb:Below w.heap.size W W')(h1:W'.heap[bl]? =W.heap[bl]?)(h2:W'.heap[bf]? =W.heap[bf]?)(h3:W'.heap[bc]? =W.heap[bc]?):Lo w bl bf bc S W':=by
 obtain⟨cs,ds,f⟩:=h.fo.it;exact⟨⟨⟨cs,ds,f.keep h2 h3⟩,h.fo.bel.trans hb,h.fo.f0,h.fo.c0⟩,h1.trans h.root,h.l0,h.nf,h.nc⟩
theorem Lo.df (h:Lo w bl bf bc S W)(hd:Df B bd W W')(hw:w.heap.size≤B)(hbd:w.heap.size≤bd)(hn:bd≠bl∧bd≠bf∧bd≠bc):Lo w bl bf bc S W':=
 h.same (hd.below h.bel.size hw hbd) (hd.old _ h.lt hn.1.symm (.inr h.nbl)) (hd.old _ h.flt hn.2.1.symm (.inr h.nbf)) (hd.old _ h.clt hn.2.2.symm (.inr h.nbc))
theorem eS {v:Value}{n:Nat}{xs:List Value}{j:Nat}(h:W.ownsRow B 5 1 v n xs)(hj:NB W j):v.ownBlock≠some j:=by
 rcases h.2 with⟨rfl,_⟩|⟨g,cap,cur,rfl,_,hg,_⟩
 ·simp[Value.ownBlock]
 ·intro e;simp only[Value.ownBlock,Option.some.injEq]at e;subst e;exact hj _ _ hg
theorem own_ge {v:Value}{n:Nat}{xs:List Value}{j:Nat}(h:W.ownsRow B 5 1 v n xs)(hj:j<B):v.ownBlock≠some j:=by
 rcases h.2 with⟨rfl,_⟩|⟨g,cap,cur,rfl,hb,hg,_⟩
 ·simp[Value.ownBlock]
 ·intro e;simp only[Value.ownBlock,Option.some.injEq]at e;omega
theorem Dk.call (h:Dk w B bd bl bf bc S l W)(hb:Below W.heap.size W W'):Dk w B bd bl bf bc S l W':=by
 obtain⟨p,v,hp,h1,h2,h3⟩:=h.it;exact⟨h.lo.call hb,⟨p,v,hp,by rw[hb.block _ h.lt];exact h1,Idl.ownsRow_of_block h2 (fun k hk=>hb.block k (h2.lt k hk).2),h3⟩,h.d0,h.w0,h_ h.b0 hb.size⟩
theorem Dk.rebase (h:Dk w B bd bl bf bc S [] W){C:Nat}(h1:w.heap.size≤C)(h2:C≤W.heap.size):Dk w C bd bl bf bc S [] W:=by
 obtain⟨p,v,hp,hb,_,hv⟩:=h.it;obtain rfl:=hv rfl;exact⟨h.lo,⟨p,_,hp,hb,World.ownsRow_nil _ _ _ _,fun _=>rfl⟩,h.d0,h1,h2⟩
theorem Dk.life (h:Dk w B bd bl bf bc S l W){T:Lv}{bf' bc':Nat}(hl:Lo w bl bf' bc' T W')(hc:Lc bl bf bc bf' bc' W W'):Dk w B bd bl bf' bc' T l W':=by
 obtain⟨p,v,hp,h1,h2,h3⟩:=h.it;have hn:=h.ne;refine⟨hl,⟨p,v,hp,by rw[hc.old _ h.lt hn.1 hn.2.1 hn.2.2];exact h1,Idl.ownsRow_of_block h2 (fun k hk=>hc.old k (h2.lt k hk).2 (fun e=>eS h2 h.lo.nbl (e▸hk)) (fun e=>eS h2 h.lo.nbf (e▸hk)) (fun e=>eS h2 h.lo.nbc (e▸hk))),h3⟩,h.d0,h.w0,h_ h.b0 hc.size⟩
theorem dk_lies:liesAt Tryz.prog Tryz.prog.depth 46 (3/Tryz.prog.cellsOf 46) 0 44 1=true:=kr_
theorem dCopyFresh (b:Nat)(w:World)(h0:w.cell? ⟨b,0,none⟩=some (.pointer none))(hsh:w.shape? b=some (46,3))(hfz:w.frozen? ⟨b,0,none⟩=false):
 Calls Tryz.prog 77 #[.pointer (some ⟨b,0,none⟩)] w fun e w'=>e=.returned (.tuple #[])∧w'=w.setCell ⟨b,0,none⟩ (.pointer (some ⟨b,0,none⟩)):=by
 obtain⟨j,hj,hjs⟩:=gL;go_enter Tryz.func77,Tryz.ntmps77;go_wp2;rw[Lib.run_to_unsafe w ⟨b,0,none⟩ Tryz.underlying41 Tryz.underlying166 hj (by rw[hjs];decide) hsh (Nat.zero_lt_succ 2)];simp only[Result.andThen];rw[Oper.upon_value];go_wp2;rw[run_callFunc_extern Tryz.func107 kr_ kr_ kr_ (e:=Extern.AbiNoEscape.same) kr_];rw[Lib.run_noEscape];simp only[Result.andThen];rw[Oper.upon_value];go_wp2;rw[Lib.run_from_unsafe w ⟨b,0,none⟩ Tryz.underlying166 Tryz.underlying41 hj hsh dk_lies];simp only[Result.andThen];rw[Oper.upon_value];go_wp2;go_end0;exact⟨rfl,rfl⟩
theorem df_set (o:Nat)(v:Value):Df B bd W (W.setCell ⟨bd,o,none⟩ v):=
 ⟨rfl,rfl,rfl,by simp[World.setCell],fun j _ hn _=>iP _ _ _ _ (fun e=>hn e)⟩
theorem df_grown {v:Value}(hg:W.grownBy W' v.ownBlock){n:Nat}{xs:List Value}(ho:W.ownsRow B 5 1 v n xs):Df B bd W W':=
 ⟨hg.os,hg.tape,hg.output,hg.size,fun j hj hn hB=>hg.block j hj (fun e=>by rcases hB with z|z;exact own_ge ho z e.symm;exact eS ho z e.symm)⟩
theorem dT {g j:Nat}{cs:Array Value}{t:TypeId}{f:Nat×Nat}(h:W.heap[g]? =some (.cells cs t f))(v:Value):(W.setCell ⟨g,j,none⟩ v).heap[g]? =some (.cells (cs.setIfInBounds j v) t f):=by
 simp[World.setCell,Array.getElem?_modify,h]
theorem own_set {v:Value}{n:Nat}{xs:List Value}(h:W.ownsRow B 5 1 v n xs)(hn:NB W bd)(o:Nat)(u:Value):(W.setCell ⟨bd,o,none⟩ u).ownsRow B 5 1 v n xs:=
 Idl.ownsRow_of_block h (fun k hk=>iP _ _ _ _ (fun e=>eS h hn (show v.ownBlock=some bd by rw[hk,e])))
theorem dCopy_any (h:Dk w B bd bl bf bc S l W):
 Calls Tryz.prog 77 #[.pointer (some ⟨bd,0,none⟩)] W fun e w'=>e=.returned (.tuple #[])∧Df B bd W w'∧∃v,w'.heap[bd]? =some (.cells #[.pointer (some ⟨bd,0,none⟩),v,.pointer (some ⟨bl,0,none⟩)] 46 (0,0))∧w'.ownsRow B 5 1 v l.length (Lib.byteCells l)∧(l=[]→v=.slice none 0 0):=by
 obtain⟨p,v,hp,h1,h2,h3⟩:=h.it;rcases hp with rfl|rfl
 ·refine(dCopyFresh bd W (by rw[Lib.cell_of_heap h1];rfl) (by simp[World.shape?,h1]) (Lib.frozen_of_heap h1 0)).mono ?_;rintro e w' ⟨rfl,rfl⟩;have D:Df B bd W (W.setCell ⟨bd,0,none⟩ (.pointer (some ⟨bd,0,none⟩))):=df_set 0 _;exact⟨rfl,D,v,by rw[dT h1];rfl,own_set h2 h.nb 0 _,h3⟩
 ·refine(copyUsed bd W (by rw[Lib.cell_of_heap h1];rfl)).mono ?_;rintro e w' ⟨rfl,rfl⟩;exact⟨rfl,Df.refl _ _ _,v,h1,h2,h3⟩
theorem Dk.put (h:Dk w B bd bl bf bc S l W){W2:World}(hd:Df B bd W W2){q v u:Value}(hq:q=.pointer none∨q=.pointer (some ⟨bd,0,none⟩))(hb:W2.heap[bd]? =some (.cells #[q,v,.pointer (some ⟨bl,0,none⟩)] 46 (0,0))){k:List UInt8}(ho:W2.ownsRow B 5 1 u k.length (Lib.byteCells k))(hk:k=[]→u=.slice none 0 0):
 Dk w B bd bl bf bc S k (W2.setCell ⟨bd,1,none⟩ u)∧Df B bd W (W2.setCell ⟨bd,1,none⟩ u):=by
 have D:Df B bd W (W2.setCell ⟨bd,1,none⟩ u):=hd.trans (df_set 1 u);exact⟨⟨h.lo.df D h.w0 h.d0 h.ne,⟨q,u,hq,by rw[dT hb];rfl,own_set ho (dy hb dc_) 1 u,hk⟩,h.d0,h.w0,h_ h.b0 D.size⟩,D⟩
theorem dByte_any (c:UInt8)(h:Dk w B bd bl bf bc S l W)(hlen:l.length+1≤140737488355328):
 Calls Tryz.prog 51 #[.pointer (some ⟨bd,0,none⟩),.int .u8 (c.toNat:Int)] W fun e w'=>e=.returned .nilIface∧Dk w B bd bl bf bc S (l++[c]) w'∧Df B bd W w':=by
 obtain⟨i0,hi,hz0,hz1,hz2⟩:=ew;have hc:=dCopy_any h;have HD:=ae h;have hBW:=h.b0;clear h;obtain⟨cz,hcz⟩:∃z:Int,z=(c.toNat:Int):=⟨_,rfl⟩;rw[←hcz];have HC:=ae hcz;clear hcz;go_enter Tryz.func51,Tryz.ntmps51;go_wp2_with(go_at_call 77;refine hc.mono ?_);rintro e w1 ⟨rfl,hb1,v,hbk,hown,hnil⟩;have c0:w1.cell? ⟨bd,0,none⟩=some (.pointer (some ⟨bd,0,none⟩)):=by rw[Lib.cell_of_heap hbk];rfl
 have c1:w1.cell? ⟨bd,1,none⟩=some v:=by rw[Lib.cell_of_heap hbk];rfl
 go_wp2_with(at_builtin;refine wpList_append_own _ rfl _ _ 42 rfl B 5 i0 (.int .u8 0) 1 1 Tryz.underlying42 hi hz0 hz1 hz2 rfl dc_ _ _ _ rfl (hown.alloc _) ⟨w1.heap.size,0,none⟩ 1 1 [.int .u8 cz] rfl rfl ?c1 ?c2 ?c3 ?c4 ?c5 ?_)
 case c1=>
  intro j u hj;match j,hj with
  |0,hj=>simp at hj;subst hj;simp[Addr.add]
 case c2=>intro u hu;simp at hu;subst hu;rfl
 case c3=>unfold maxLen;omega
 case c4=>omega
 case c5=>have:=hb1.size;simp;omega
 intro v' w2 hown' hgrow _;have hlt:bd<w1.heap.size:=(gW.1 hbk).1;have D2:Df B bd W w2:=(hb1.trans (Df.of_below ((gX _ w1).alloc (gY _) _))).trans (df_grown hgrow (hown.alloc _));have hb2:w2.heap[bd]? =some (.cells #[.pointer (some ⟨bd,0,none⟩),v,.pointer (some ⟨bl,0,none⟩)] 46 (0,0)):=by
  rw[hgrow.block bd (by simp;omega) (fun e=>eS hown (dy hbk dc_) e.symm),Lib.alloc_old w1 _ bd hlt];exact hbk
 have d0:w2.cell? ⟨bd,0,none⟩=some (.pointer (some ⟨bd,0,none⟩)):=by rw[Lib.cell_of_heap hb2];rfl
 have d1:w2.cell? ⟨bd,1,none⟩=some v:=by rw[Lib.cell_of_heap hb2];rfl
 have f1:w2.frozen? ⟨bd,1,none⟩=false:=Lib.frozen_of_heap hb2 1;obtain⟨g,cap,rfl⟩:∃g cap,v'=.slice (some ⟨g,0,none⟩) (l.length+1) cap:=by
  rcases hown'.2 with⟨_,h0⟩|⟨g,cap,cur,hv,_⟩
  ·omega
  ·exact⟨g,cap,hv⟩
 have EC:=ae (show Lib.byteCells l++[Value.int .u8 cz]=Lib.byteCells (l++[c])by rw[ac HC];simp[Lib.byteCells]);rw[ac EC,show l.length+1=(l++[c]).length by simp]at hown';have PP:=ae ((ac HD).put D2 (.inr rfl) hb2 hown' (fun z=>by simp at z));rw[show(l++[c]).length=l.length+1 by simp]at PP;clear hown' hgrow hown hnil D2 hb2 hbk hb1 EC HC;go_wp2;go_ret;exact⟨rfl,ac PP⟩
theorem gI (s:ByteArray)(h:Dk w B bd bl bf bc S l W)(hlen:l.length+s.size≤140737488355328):
 Calls Tryz.prog 50 #[.pointer (some ⟨bd,0,none⟩),.string s] W fun e w'=>e=.returned (.tuple #[.int .i64 s.size,.nilIface])∧Dk w B bd bl bf bc S (l++s.toList) w'∧Df B bd W w':=by
 obtain⟨i0,hi,hz0,hz1,hz2⟩:=ew;have hc:=dCopy_any h;have HD:=ae h;have hBW:=h.b0;clear h;go_enter Tryz.func50,Tryz.ntmps50;go_wp2_with(go_at_call 77;refine hc.mono ?_);rintro e w1 ⟨rfl,hb1,v,hbk,hown,hnil⟩;have c0:w1.cell? ⟨bd,0,none⟩=some (.pointer (some ⟨bd,0,none⟩)):=by rw[Lib.cell_of_heap hbk];rfl
 have c1:w1.cell? ⟨bd,1,none⟩=some v:=by rw[Lib.cell_of_heap hbk];rfl
 go_wp2_with(at_builtin;refine Lib.wpList_append_own_string _ rfl _ _ 42 9 rfl B 5 i0 Tryz.underlying42 Tryz.underlying9 hi hz0 hz1 hz2 _ _ _ rfl hown s rfl ?c3 ?c4 ?c5 ?_)
 case c3=>unfold maxLen;omega
 case c4=>omega
 case c5=>have:=hb1.size;omega
 intro v' w2 hown' hgrow hiff;have hlt:bd<w1.heap.size:=(gW.1 hbk).1;have D2:Df B bd W w2:=hb1.trans (df_grown hgrow hown);have hb2:w2.heap[bd]? =some (.cells #[.pointer (some ⟨bd,0,none⟩),v,.pointer (some ⟨bl,0,none⟩)] 46 (0,0)):=by
  rw[hgrow.block bd hlt (fun e=>eS hown (dy hbk dc_) e.symm)];exact hbk
 have d0:w2.cell? ⟨bd,0,none⟩=some (.pointer (some ⟨bd,0,none⟩)):=by rw[Lib.cell_of_heap hb2];rfl
 have d1:w2.cell? ⟨bd,1,none⟩=some v:=by rw[Lib.cell_of_heap hb2];rfl
 have f1:w2.frozen? ⟨bd,1,none⟩=false:=Lib.frozen_of_heap hb2 1;have ES:s.toList.length=s.size:=by rw[ByteArray.toList_eq];rfl
 have NK:l++s.toList=[]→v'=.slice none 0 0:=fun z=>by
  have z2:=List.append_eq_nil_iff.1 z;have z3:s.size=0:=by rw[←ES,z2.2];rfl
  exact hiff.2 ⟨hnil z2.1,by simpa using z3⟩
 have ho2:w2.ownsRow B 5 1 v' (l++s.toList).length (Lib.byteCells (l++s.toList)):=by
  rw[show Lib.byteCells (l++s.toList)=Lib.byteCells l++Lib.strCells s by rw[ByteArray.toList_eq,Lib.byteCells_append];rfl,gZ,ES];exact hown'
 obtain⟨ao,n',cap,rfl⟩:∃ao n' cap,v'=.slice ao n' cap:=by
  rcases hown'.2 with⟨hv,_⟩|⟨g,cap,cur,hv,_⟩
  ·exact⟨_,_,_,hv⟩
  ·exact⟨_,_,_,hv⟩
 have PP:=ae ((ac HD).put D2 (.inr rfl) hb2 ho2 NK);clear hown' hgrow hown hnil D2 hb2 hbk hb1 ho2 NK hiff ES;go_wp2;go_ret2;exact⟨rfl,ac PP⟩
theorem dString_none {p:Value}(hbk:W.heap[bd]? =some (.cells #[p,.slice none 0 0,.pointer (some ⟨bl,0,none⟩)] 46 (0,0))):
 Calls Tryz.prog 20 #[.pointer (some ⟨bd,0,none⟩)] W fun e w'=>e=.returned (.string ⟨#[]⟩)∧Below W.heap.size W w':=by
 have c1:W.drew.cell? ⟨bd,1,none⟩=some (.slice none 0 0):=by
  have:W.drew.heap[bd]? =some (.cells #[p,.slice none 0 0,.pointer (some ⟨bl,0,none⟩)] 46 (0,0)):=hbk;rw[Lib.cell_of_heap this];rfl
 have hSD:(Builtin.unsafeSliceData_ #[42] 93 #[.slice none 0 0]).run Tryz.prog W.drew=.ok (.pointer none) W.drew:=Lib.run_unsafeSliceData_nil _ _ _ _ _;have hUS:(Builtin.unsafeString_ #[93,3] 9 #[.pointer none,.int .i64 0]).run Tryz.prog W.drew=.ok (.string ⟨#[]⟩) W.drew:=Lib.run_unsafeString_none _ _ _ _ _;have mixed:Tryz.prog.follows Departure.mixedOrders=true:=kr_;go_enter Tryz.func20,Tryz.ntmps20;go_wp2;go_region_o;all_goals(go_wp2;go_ret;exact⟨rfl,(gX _ W).drew⟩)
theorem df_freeze {g n:Nat}{cs:Array Value}{f:Nat×Nat}(hB:B≤g)(hg:W.heap[g]? =some (.cells cs 5 f)):Df B bd W (W.drew.freeze ⟨g,0,none⟩ n):=by
 have e:∀j,j≠g→(W.drew.freeze ⟨g,0,none⟩ n).heap[j]? =W.heap[j]? :=fun j hj=>by
  unfold World.freeze;split
  ·rfl
  ·simp only[Array.getElem?_modify];rw[if_neg om_];rfl
 have b:=Lib.below_freeze (Below.drew (gX 0 W)) (p:=⟨g,0,none⟩) (hZ _) n;exact⟨b.os,b.tape,b.output,b.size,fun j _ _ ho=>e j (fun z=>by subst z;rcases ho with y|y;omega;exact y _ _ hg)⟩
theorem dString_some (h:Dk w B bd bl bf bc S l W)(h0:l≠[]):
 Calls Tryz.prog 20 #[.pointer (some ⟨bd,0,none⟩)] W fun e w'=>e=.returned (.string ⟨l.toArray⟩)∧Df B bd W w'∧w'.heap[bd]? =W.heap[bd]? :=by
 have hl0:l.length≠0:=by simpa using h0
 have hnb:=h.nb;obtain⟨p,v,hp,hbk,hown,_⟩:=h.it;obtain⟨g,cap,cur,rfl,hbg,hg,hnc,hcm,hcs,htake⟩:∃g cap cur,v=.slice (some ⟨g,0,none⟩) l.length cap∧B≤g∧W.heap[g]? =some (.cells cur 5)∧l.length≤cap∧cap≤maxLen∧cur.size=cap*1∧cur.toList.take (l.length*1)=Lib.byteCells l:=by
  rcases hown.2 with⟨_,hz⟩|⟨g,cap,cur,hv,r⟩
  ·exact absurd hz hl0
  ·exact⟨g,cap,cur,hv,r⟩
 have c1:W.drew.cell? ⟨bd,1,none⟩=some (.slice (some ⟨g,0,none⟩) l.length cap):=by
  have:W.drew.heap[bd]? =some (.cells #[p,.slice (some ⟨g,0,none⟩) l.length cap,.pointer (some ⟨bl,0,none⟩)] 46 (0,0)):=hbk;rw[Lib.cell_of_heap this];rfl
 have hSD:(Builtin.unsafeSliceData_ #[42] 93 #[.slice (some ⟨g,0,none⟩) l.length cap]).run Tryz.prog W.drew=.ok (.pointer (some ⟨g,0,none⟩)) W.drew:=
  Lib.run_unsafeSliceData_row _ _ _ _ _ _ om_
 have hcb:Tryz.prog.cellsOf 5=1:=kr_;have hUS:(Builtin.unsafeString_ #[93,3] 9 #[.pointer (some ⟨g,0,none⟩),.int .i64 l.length]).run Tryz.prog W.drew=.ok (.string ⟨l.toArray⟩) (W.drew.freeze ⟨g,0,none⟩ l.length):=by
  refine Lib.run_unsafeString_row W.drew 93 3 9 5 Tryz.underlying93 hcb g cur.size (by have hg':W.drew.heap[g]? =some (.cells cur 5):=hg;simp[World.shape?,hg']) l h0 om_ (by unfold maxLen at hcm;omega) ?_;intro j x hx;have:=hown.cells (g:=g) rfl j (.int .u8 x.toNat) (by simp[Lib.byteCells,hx]);exact this
 have DD:Df B bd W (W.drew.freeze ⟨g,0,none⟩ l.length):=df_freeze hbg hg;have BD:=ae (show(W.drew.freeze ⟨g,0,none⟩ l.length).heap[bd]? =W.heap[bd]? by
  have D3:Df 0 g W (W.drew.freeze ⟨g,0,none⟩ l.length):=df_freeze (hZ _) hg;exact D3.old bd (gW.1 hbk).1 (fun e=>hnb _ _ (by rw[e];exact hg)) (.inr hnb))
 have BB:=ae DD;clear hp hbk hown hg hnc hcm hcs htake h hbg DD hnb;have mixed:Tryz.prog.follows Departure.mixedOrders=true:=kr_;go_enter Tryz.func20,Tryz.ntmps20;go_wp2;go_region_o;all_goals(go_wp2;go_ret;exact⟨rfl,ac BB,ac BD⟩)
theorem dString_any (h:Dk w B bd bl bf bc S l W):
 Calls Tryz.prog 20 #[.pointer (some ⟨bd,0,none⟩)] W fun e w'=>e=.returned (.string ⟨l.toArray⟩)∧Df B bd W w'∧w'.heap[bd]? =W.heap[bd]? :=by
 by_cases h0:l=[]
 ·subst h0;have hlt:=h.lt;obtain⟨p,v,_,hbk,_,hv⟩:=h.it;rw[hv rfl]at hbk;exact(dString_none hbk).mono fun e w' ⟨he,hb⟩=>⟨he,Df.of_below hb,hb.block _ hlt⟩
 ·exact dString_some h h0
theorem dReset_any (h:Dk w B bd bl bf bc S l W){V:World}(hd:Df B bd W V)(hb:V.heap[bd]? =W.heap[bd]?):
 Calls Tryz.prog 21 #[.pointer (some ⟨bd,0,none⟩)] V fun e w'=>e=.returned (.tuple #[])∧Dk w B bd bl bf bc S [] w'∧Df B bd W w':=by
 obtain⟨p,v,hp,hbk,_,_⟩:=h.it;rw[←hb]at hbk;have c0:V.cell? ⟨bd,0,none⟩=some p:=by rw[Lib.cell_of_heap hbk];rfl
 have f0:V.frozen? ⟨bd,0,none⟩=false:=Lib.frozen_of_heap hbk 0;have hb1:(V.setCell ⟨bd,0,none⟩ (.pointer none)).heap[bd]? =some (.cells #[.pointer none,v,.pointer (some ⟨bl,0,none⟩)] 46 (0,0)):=by rw[dT hbk];rfl
 have c1:(V.setCell ⟨bd,0,none⟩ (.pointer none)).cell? ⟨bd,1,none⟩=some v:=by rw[Lib.cell_of_heap hb1];rfl
 have f1:(V.setCell ⟨bd,0,none⟩ (.pointer none)).frozen? ⟨bd,1,none⟩=false:=Lib.frozen_of_heap hb1 1;have PP:=ae (h.put (hd.trans (df_set 0 (.pointer none))) (.inl rfl) hb1 (World.ownsRow_nil _ _ _ _) (fun _=>rfl) (k:=[]));clear h hd hb hp hbk hb1;go_enter Tryz.func21,Tryz.ntmps21;go_wp2;go_end0;exact⟨rfl,ac PP⟩
end
end
section
open Idl (Stp chk)
namespace Dsk
def wOk:List UInt8:=[111,107]
def wNo:List UInt8:=[110,111]
def wWhat:List UInt8:=[119,104,97,116]
def wNone:List UInt8:=[110,111,110,101]
def wNames:List UInt8:=[110,97,109,101,115]
def wTrue:List UInt8:=[116,114,117,101]
def wFalse:List UInt8:=[102,97,108,115,101]
def wEnd:List UInt8:=[101,110,100]
def wDirty:List UInt8:=[100,105,114,116,121]
def wLost:List UInt8:=[108,111,115,116]
def wRead:List UInt8:=[114,101,97,100]
def wList:List UInt8:=[108,105,115,116]
def wSame:List UInt8:=[115,97,109,101]
def wSure:List UInt8:=[115,117,114,101]
def wDisk:List UInt8:=[100,105,115,107]
def num (s:ByteArray):Int:=
 match Lib.atoiAll s.data.toList with
 |.ok v=>if v<0 then-1 else if Lib.itoa v=s.data.toList then v else-1
 |_=>-1
def meanF:Nat→List UInt8→Option (List UInt8)
 |_,[]=>some []
 |0,_=>none
 |f+1,l=>if(Txt.meant1 l).2=0 then none else(meanF f (l.drop (Txt.meant1 l).2)).map ((Txt.meant1 l).1::·)
def meanL:List UInt8→Option (List UInt8)
 |61::r=>meanF r.length r
 |_=>none
def mean (s:ByteArray):Option ByteArray:=(meanL s.toList).map fun l=>⟨l.toArray⟩
theorem meanF_iff:∀(f:Nat)(l t:List UInt8),l.length≤f→(meanF f l=some t↔l=Txt.showR t)
 |f,[],t,_=>by
  have e:meanF f []=some []:=by cases f<;>rfl
  rw[e];constructor
  ·intro h;cases h;rfl
  ·intro h;have:=(Txt.showR_len t).1;rw[←h]at this;cases t with
   |nil=>rfl
   |cons c r=>simp at this
 |0,a::r,t,h=>by simp at h
 |f+1,a::r,t,h=>by
  have e:meanF (f+1) (a::r)=if(Txt.meant1 (a::r)).2=0 then none else(meanF f ((a::r).drop (Txt.meant1 (a::r)).2)).map ((Txt.meant1 (a::r)).1::·):=rfl
  rw[e];by_cases c:(Txt.meant1 (a::r)).2=0
  ·rw[if_pos c];constructor
   ·intro z;cases z
   ·intro z;cases t with
    |nil=>cases z
    |cons b q=>exact absurd z (Txt.meant1_none c b (Txt.showR q))
  ·rw[if_neg c];obtain⟨h1,h2,h3⟩:=Txt.meant1_some c;have ih:=fun t=>meanF_iff f ((a::r).drop (Txt.meant1 (a::r)).2) t (by rw[iK];omega)
   rw[Option.map_eq_some_iff];constructor
   ·rintro⟨q,hq,rfl⟩;rw[ih]at hq;rw[hq]at h3;exact h3
   ·intro z;cases t with
    |nil=>cases z
    |cons b q=>
     have z2:Txt.showB (Txt.meant1 (a::r)).1++(a::r).drop (Txt.meant1 (a::r)).2=Txt.showB b++Txt.showR q:=by rw[←h3];exact z
     obtain⟨e1,e2⟩:=Txt.showB_free z2;exact⟨q,(ih q).2 e2,by rw[e1]⟩
theorem meanL_iff (l t:List UInt8):meanL l=some t↔l=Txt.shows t:=by
 unfold meanL Txt.shows;split
 ·rename_i r
  rw[meanF_iff _ _ _ (gY _)];simp
 ·rename_i h
  constructor
  ·intro z;cases z
  ·intro z;exact absurd z (h _)
structure Frm where
 word:ByteArray
 places:ByteArray
 kind:Int
def frms:List Frm:=[
 ⟨⟨#[109,97,107,101]⟩,⟨#[68,78]⟩,1⟩,
 ⟨⟨#[117,110,108,105,110,107]⟩,⟨#[68,78]⟩,3⟩,
 ⟨⟨#[108,105,110,107]⟩,⟨#[68,78,69,77]⟩,2⟩,
 ⟨⟨#[114,101,110,97,109,101]⟩,⟨#[68,78,69,77]⟩,4⟩,
 ⟨⟨#[112,117,116]⟩,⟨#[68,78,80,84]⟩,5⟩,
 ⟨⟨#[99,117,116]⟩,⟨#[68,78,80]⟩,6⟩,
 ⟨⟨#[119,114,105,116,101]⟩,⟨#[66]⟩,7⟩,
 ⟨⟨#[115,121,110,99]⟩,⟨#[]⟩,8⟩,
 ⟨⟨#[99,114,97,115,104]⟩,⟨#[]⟩,9⟩,
 ⟨⟨#[114,101,97,100]⟩,⟨#[68,78,80]⟩,0⟩,
 ⟨⟨#[108,105,115,116]⟩,⟨#[68]⟩,0⟩,
 ⟨⟨#[115,97,109,101]⟩,⟨#[68,78,69,77]⟩,0⟩,
 ⟨⟨#[115,117,114,101]⟩,⟨#[68,78]⟩,0⟩,
 ⟨⟨#[100,105,115,107]⟩,⟨#[]⟩,0⟩,
 ⟨⟨#[100,105,114,116,121]⟩,⟨#[]⟩,0⟩,
 ⟨⟨#[108,111,115,116]⟩,⟨#[]⟩,0⟩]
def isFrm (w:ByteArray)(n:Nat)(f:Frm):Bool:=f.word.toList==w.toList&&f.places.size==n
def fill (x:Stp)(c:UInt8)(w:ByteArray):Option Stp:=
 if c=68 then some {x with dir:=num w}
 else if c=78 then some {x with name:=w}
 else if c=69 then some {x with toDir:=num w}
 else if c=77 then some ⟨x.kind,x.dir,x.toDir,x.p,x.name,w,x.text⟩
 else if c=80∨c=66 then some {x with p:=num w}
 else if c=84 then(mean w).map fun t=>{x with text:=t}
 else some x
def fills:Stp→List UInt8→List ByteArray→Option Stp
 |x,c::cs,w::ws=>(fill x c w).bind fun y=>fills y cs ws
 |x,_,_=>some x
def blank (k:Int):Stp:=⟨k,0,0,0,⟨#[]⟩,⟨#[]⟩,⟨#[]⟩⟩
def meant (w:ByteArray)(more:List ByteArray):Option Stp:=
 match frms.find? (isFrm w more.length)with
 |none=>none
 |some f=>fills (blank f.kind) f.places.toList more
def ansStep (S:Lv)(x:Stp):List UInt8:=if S.code x≠0 then Txt.line [wNo,Lib.itoa (S.code x)]else Txt.line [wOk]
def ansRead (S:Lv)(x:Stp):List UInt8:=
 if Img.sreadC S.now x.dir x.name x.p≠0 then Txt.line [wNo,Lib.itoa (Img.sreadC S.now x.dir x.name x.p)]
 else if Img.sreadB S.now x.dir x.name x.p=false then Txt.line [wNone]
 else Txt.line [Txt.shows (Img.sreadT S.now x.dir x.name x.p).toList]
def yes (b:Bool):List UInt8:=if b then wTrue else wFalse
def dirtyTo (S:Lv):Nat→List Int
 |0=>[]
 |n+1=>dirtyTo S n++if Img.dirty S.now S.disk (n:Int)=true then[(n:Int)]else[]
def ansAsk (S:Lv)(w:List UInt8)(x:Stp):List UInt8:=
 if w=wRead then ansRead S x
 else if w=wList then Txt.line (wNames::(Img.snames S.now x.dir).map (·.toList))
 else if w=wSame then Txt.line [yes (Img.ssame S.now x.dir x.name x.toDir x.to)]
 else if w=wSure then Txt.line [yes (Img.ssure S.now S.disk x.dir x.name)]
 else if w=wDisk then Txt.printed S.disk++Txt.line [wEnd]
 else if w=wDirty then Txt.line (wDirty::(dirtyTo S 14).map Lib.itoa)
 else if w=wLost then Txt.line (wLost::[S.cr,S.lf,S.lc,S.ld].map Lib.itoa)
 else[]
def told (S:Lv):List ByteArray→List UInt8
 |[]=>[]
 |w::more=>
  match meant w more with
  |none=>Txt.line [wWhat]
  |some x=>if x.kind≠0 then ansStep S x else ansAsk S w.toList x
def next (S:Lv):List ByteArray→Lv
 |[]=>S
 |w::more=>
  match meant w more with
  |none=>S
  |some x=>if x.kind≠0 then S.step x else S
def words (s:ByteArray):List ByteArray:=Lib.goFieldsP (fun r=>r==32) s
def tells:Lv→List ByteArray→List UInt8
 |_,[]=>[]
 |S,s::L=>told S (words s)++tells (next S (words s)) L
def nexts:Lv→List ByteArray→Lv
 |S,[]=>S
 |S,s::L=>nexts (next S (words s)) L
theorem tells_append:∀(S:Lv)(a b:List ByteArray),tells S (a++b)=tells S a++tells (nexts S a) b
 |_,[],_=>rfl
 |S,s::a,b=>by
  show told S (words s)++tells (next S (words s)) (a++b)=_;rw[tells_append];show _=(told S (words s)++tells (next S (words s)) a)++tells (nexts (next S (words s)) a) b;rw[iF]
theorem nexts_append:∀(S:Lv)(a b:List ByteArray),nexts S (a++b)=nexts (nexts S a) b
 |_,[],_=>rfl
 |S,s::a,b=>nexts_append (next S (words s)) a b
theorem next_cases (S:Lv)(ws:List ByteArray):next S ws=S∨∃x,next S ws=S.step x:=by
 unfold next
 split
 ·exact .inl rfl
 ·split
  ·exact .inl rfl
  ·split
   ·exact .inr ⟨_,rfl⟩
   ·exact .inl rfl
end Dsk
end
end Go.Proofs.YtfpfpnhpbnnmfadGreatDoor
namespace Go.Proofs
open Go.Shelf
def Tryz.lays144_ren:Go.Shelf.Ren:=⟨fun|144=>16|143=>26|219=>48|217=>72|225=>73|224=>74|267=>75|266=>102|314=>103|n=>n,fun|9=>9|4=>4|3=>3|5=>5|46=>37|146=>164|51=>163|n=>n,fun|1=>1|n=>n⟩
theorem Tryz.lays144:Go.Proofs.Lays.n144 Tryz.prog Tryz.lays144_ren:={
 mixed:=kr_
 f143:=Tryz.func26.trans (congrArg some kr_)
 f144:=Tryz.func16.trans (congrArg some kr_)
 f217:=Tryz.func72.trans (congrArg some kr_)
 f219:=Tryz.func48.trans (congrArg some kr_)
 f224:=Tryz.func74.trans (congrArg some kr_)
 f225:=Tryz.func73.trans (congrArg some kr_)
 f266:=Tryz.func102.trans (congrArg some kr_)
 f267:=Tryz.func75.trans (congrArg some kr_)
 f314:=Tryz.func103.trans (congrArg some kr_)
 t3:=Tryz.underlying3
 a3:=Tryz.isAgg3
 z3:=Tryz.sizeOf3
 v3:=Tryz.zeroValue3
 t4:=Tryz.underlying4
 a4:=Tryz.isAgg4
 z4:=Tryz.sizeOf4
 v4:=Tryz.zeroValue4
 t5:=Tryz.underlying5
 a5:=Tryz.isAgg5
 z5:=Tryz.sizeOf5
 v5:=Tryz.zeroValue5
 t9:=Tryz.underlying9
 a9:=Tryz.isAgg9
 z9:=Tryz.sizeOf9
 v9:=Tryz.zeroValue9
 t46:=Tryz.underlying37
 a46:=Tryz.isAgg37
 z46:=Tryz.sizeOf37
 v46:=Tryz.zeroValue37
 t51:=Tryz.underlying163
 a51:=Tryz.isAgg163
 z51:=Tryz.sizeOf163
 v51:=Tryz.zeroValue163
 t146:=Tryz.underlying164
 a146:=Tryz.isAgg164
 z146:=Tryz.sizeOf164
 v146:=Tryz.zeroValue164
 g1:=by kernel_rfl}
def Tryz.lays229_ren:Go.Shelf.Ren:=⟨fun|229=>18|n=>n,fun|9=>9|40=>56|31=>22|152=>90|3=>3|0=>0|4=>4|21=>21|154=>92|n=>n,fun|n=>n⟩
theorem Tryz.lays229:Go.Proofs.Lays.n229 Tryz.prog Tryz.lays229_ren:={
 mixed:=kr_
 f229:=Tryz.func18.trans (congrArg some kr_)
 t0:=Tryz.underlying0
 a0:=Tryz.isAgg0
 z0:=Tryz.sizeOf0
 v0:=Tryz.zeroValue0
 t3:=Tryz.underlying3
 a3:=Tryz.isAgg3
 z3:=Tryz.sizeOf3
 v3:=Tryz.zeroValue3
 t4:=Tryz.underlying4
 a4:=Tryz.isAgg4
 z4:=Tryz.sizeOf4
 v4:=Tryz.zeroValue4
 t9:=Tryz.underlying9
 a9:=Tryz.isAgg9
 z9:=Tryz.sizeOf9
 v9:=Tryz.zeroValue9
 t21:=Tryz.underlying21
 a21:=Tryz.isAgg21
 z21:=Tryz.sizeOf21
 v21:=Tryz.zeroValue21
 t31:=Tryz.underlying22
 a31:=Tryz.isAgg22
 z31:=Tryz.sizeOf22
 v31:=Tryz.zeroValue22
 t40:=Tryz.underlying56
 a40:=Tryz.isAgg56
 z40:=Tryz.sizeOf56
 v40:=Tryz.zeroValue56
 t152:=Tryz.underlying90
 a152:=Tryz.isAgg90
 z152:=Tryz.sizeOf90
 v152:=Tryz.zeroValue90
 t154:=Tryz.underlying92
 a154:=Tryz.isAgg92
 z154:=Tryz.sizeOf92
 v154:=Tryz.zeroValue92}
def Tryz.laysC172_ren:Go.Shelf.Ren:=⟨fun|172=>66|244=>97|245=>98|247=>135|279=>136|280=>137|281=>138|282=>139|287=>183|316=>141|171=>69|205=>184|321=>210|322=>211|243=>100|246=>140|283=>185|284=>186|285=>187|286=>188|129=>169|317=>212|318=>213|319=>214|320=>215|337=>229|338=>230|n=>n,fun|9=>9|3=>3|75=>121|76=>122|4=>4|5=>5|167=>195|37=>42|0=>0|85=>196|2=>2|168=>198|53=>214|175=>227|46=>37|210=>230|127=>93|145=>249|143=>247|21=>21|171=>232|173=>234|212=>251|51=>163|20=>20|213=>252|232=>263|233=>264|80=>57|n=>n,fun|15=>2|16=>3|17=>4|18=>5|19=>6|n=>n⟩
theorem Tryz.laysC172:Go.Proofs.LaysC.n172 Tryz.prog Tryz.laysC172_ren:={
 mixed:=kr_
 f129:=Tryz.func169.trans (congrArg some kr_)
 f171:=Tryz.func69.trans (congrArg some kr_)
 f172:=Tryz.func66.trans (congrArg some kr_)
 f205:=Tryz.func184.trans (congrArg some kr_)
 f243:=Tryz.func100.trans (congrArg some kr_)
 f244:=Tryz.func97.trans (congrArg some kr_)
 f245:=Tryz.func98.trans (congrArg some kr_)
 f246:=Tryz.func140.trans (congrArg some kr_)
 f247:=Tryz.func135.trans (congrArg some kr_)
 f279:=Tryz.func136.trans (congrArg some kr_)
 f280:=Tryz.func137.trans (congrArg some kr_)
 f281:=Tryz.func138.trans (congrArg some kr_)
 f282:=Tryz.func139.trans (congrArg some kr_)
 f283:=Tryz.func185.trans (congrArg some kr_)
 f284:=Tryz.func186.trans (congrArg some kr_)
 f285:=Tryz.func187.trans (congrArg some kr_)
 f286:=Tryz.func188.trans (congrArg some kr_)
 f287:=Tryz.func183.trans (congrArg some kr_)
 f316:=Tryz.func141.trans (congrArg some kr_)
 f317:=Tryz.func212.trans (congrArg some kr_)
 f318:=Tryz.func213.trans (congrArg some kr_)
 f319:=Tryz.func214.trans (congrArg some kr_)
 f320:=Tryz.func215.trans (congrArg some kr_)
 f321:=Tryz.func210.trans (congrArg some kr_)
 f322:=Tryz.func211.trans (congrArg some kr_)
 f337:=Tryz.func229.trans (congrArg some kr_)
 f338:=Tryz.func230.trans (congrArg some kr_)
 t0:=Tryz.underlying0
 a0:=Tryz.isAgg0
 z0:=Tryz.sizeOf0
 v0:=Tryz.zeroValue0
 t2:=Tryz.underlying2
 a2:=Tryz.isAgg2
 z2:=Tryz.sizeOf2
 v2:=Tryz.zeroValue2
 t3:=Tryz.underlying3
 a3:=Tryz.isAgg3
 z3:=Tryz.sizeOf3
 v3:=Tryz.zeroValue3
 t4:=Tryz.underlying4
 a4:=Tryz.isAgg4
 z4:=Tryz.sizeOf4
 v4:=Tryz.zeroValue4
 t5:=Tryz.underlying5
 a5:=Tryz.isAgg5
 z5:=Tryz.sizeOf5
 v5:=Tryz.zeroValue5
 t9:=Tryz.underlying9
 a9:=Tryz.isAgg9
 z9:=Tryz.sizeOf9
 v9:=Tryz.zeroValue9
 t20:=Tryz.underlying20
 a20:=Tryz.isAgg20
 z20:=Tryz.sizeOf20
 v20:=Tryz.zeroValue20
 t21:=Tryz.underlying21
 a21:=Tryz.isAgg21
 z21:=Tryz.sizeOf21
 v21:=Tryz.zeroValue21
 t37:=Tryz.underlying42
 a37:=Tryz.isAgg42
 z37:=Tryz.sizeOf42
 v37:=Tryz.zeroValue42
 t46:=Tryz.underlying37
 a46:=Tryz.isAgg37
 z46:=Tryz.sizeOf37
 v46:=Tryz.zeroValue37
 t51:=Tryz.underlying163
 a51:=Tryz.isAgg163
 z51:=Tryz.sizeOf163
 v51:=Tryz.zeroValue163
 t53:=Tryz.underlying214
 a53:=Tryz.isAgg214
 z53:=Tryz.sizeOf214
 v53:=Tryz.zeroValue214
 t75:=Tryz.underlying121
 a75:=Tryz.isAgg121
 z75:=Tryz.sizeOf121
 v75:=Tryz.zeroValue121
 t76:=Tryz.underlying122
 a76:=Tryz.isAgg122
 z76:=Tryz.sizeOf122
 v76:=Tryz.zeroValue122
 t85:=Tryz.underlying196
 a85:=Tryz.isAgg196
 z85:=Tryz.sizeOf196
 v85:=Tryz.zeroValue196
 t127:=Tryz.underlying93
 a127:=Tryz.isAgg93
 z127:=Tryz.sizeOf93
 v127:=Tryz.zeroValue93
 t143:=Tryz.underlying247
 a143:=Tryz.isAgg247
 z143:=Tryz.sizeOf247
 v143:=Tryz.zeroValue247
 t145:=Tryz.underlying249
 a145:=Tryz.isAgg249
 z145:=Tryz.sizeOf249
 v145:=Tryz.zeroValue249
 t167:=Tryz.underlying195
 a167:=Tryz.isAgg195
 z167:=Tryz.sizeOf195
 v167:=Tryz.zeroValue195
 t168:=Tryz.underlying198
 a168:=Tryz.isAgg198
 z168:=Tryz.sizeOf198
 v168:=Tryz.zeroValue198
 t171:=Tryz.underlying232
 a171:=Tryz.isAgg232
 z171:=Tryz.sizeOf232
 v171:=Tryz.zeroValue232
 t173:=Tryz.underlying234
 a173:=Tryz.isAgg234
 z173:=Tryz.sizeOf234
 v173:=Tryz.zeroValue234
 t175:=Tryz.underlying227
 a175:=Tryz.isAgg227
 z175:=Tryz.sizeOf227
 v175:=Tryz.zeroValue227
 t210:=Tryz.underlying230
 a210:=Tryz.isAgg230
 z210:=Tryz.sizeOf230
 v210:=Tryz.zeroValue230
 t212:=Tryz.underlying251
 a212:=Tryz.isAgg251
 z212:=Tryz.sizeOf251
 v212:=Tryz.zeroValue251
 t213:=Tryz.underlying252
 a213:=Tryz.isAgg252
 z213:=Tryz.sizeOf252
 t232:=Tryz.underlying263
 a232:=Tryz.isAgg263
 z232:=Tryz.sizeOf263
 v232:=Tryz.zeroValue263
 t233:=Tryz.underlying264
 a233:=Tryz.isAgg264
 z233:=Tryz.sizeOf264
 v233:=Tryz.zeroValue264
 g15:=kr_
 g16:=kr_
 g17:=kr_
 g18:=kr_
 g19:=kr_
 t80:=Tryz.underlying57
 a80:=Tryz.isAgg57
 z80:=Tryz.sizeOf57
 v80:=Tryz.zeroValue57
 i0:=kr_
 i2:=kr_
 i3:=kr_
 i4:=kr_
 i5:=kr_
 i9:=kr_
 i20:=kr_
 i21:=kr_
 i37:=kr_
 i46:=kr_
 i51:=kr_
 i53:=kr_
 i75:=kr_
 i76:=kr_
 i80:=kr_
 i85:=kr_
 i127:=kr_
 i143:=kr_
 i145:=kr_
 i167:=kr_
 i168:=kr_
 i171:=kr_
 i173:=kr_
 i175:=kr_
 i210:=kr_
 i212:=kr_
 i232:=kr_
 i233:=kr_
 m15:=kr_
 m16:=kr_
 m17:=kr_
 m18:=kr_
 m19:=kr_
 c0:=kr_
 c2:=kr_
 c3:=kr_
 c4:=kr_
 c5:=kr_
 c9:=kr_
 c20:=kr_
 c21:=kr_
 c37:=kr_
 c46:=kr_
 c51:=kr_
 c53:=kr_
 c75:=kr_
 c76:=kr_
 c80:=kr_
 c85:=kr_
 c127:=kr_
 c143:=kr_
 c145:=kr_
 c167:=kr_
 c168:=kr_
 c171:=kr_
 c173:=kr_
 c175:=kr_
 c210:=kr_
 c212:=kr_
 c213:=kr_
 c232:=kr_
 c233:=by kernel_rfl}
def Tryz.laysPu25_ren:Go.Shelf.Ren:=⟨fun|25=>141|n=>n,fun|9=>9|3=>3|4=>4|37=>42|0=>0|47=>93|5=>5|n=>n,fun|n=>n⟩
theorem Tryz.laysPu25:Go.Proofs.LaysPu.n25 Tryz.prog Tryz.laysPu25_ren:={
 mixed:=kr_
 f25:=Tryz.func141.trans (congrArg some kr_)
 t0:=Tryz.underlying0
 a0:=Tryz.isAgg0
 z0:=Tryz.sizeOf0
 v0:=Tryz.zeroValue0
 i0:=kr_
 t3:=Tryz.underlying3
 a3:=Tryz.isAgg3
 z3:=Tryz.sizeOf3
 v3:=Tryz.zeroValue3
 i3:=kr_
 t4:=Tryz.underlying4
 a4:=Tryz.isAgg4
 z4:=Tryz.sizeOf4
 v4:=Tryz.zeroValue4
 i4:=kr_
 t5:=Tryz.underlying5
 a5:=Tryz.isAgg5
 z5:=Tryz.sizeOf5
 v5:=Tryz.zeroValue5
 i5:=kr_
 t9:=Tryz.underlying9
 a9:=Tryz.isAgg9
 z9:=Tryz.sizeOf9
 v9:=Tryz.zeroValue9
 i9:=kr_
 t37:=Tryz.underlying42
 a37:=Tryz.isAgg42
 z37:=Tryz.sizeOf42
 v37:=Tryz.zeroValue42
 i37:=kr_
 t47:=Tryz.underlying93
 a47:=Tryz.isAgg93
 z47:=Tryz.sizeOf93
 v47:=Tryz.zeroValue93
 i47:=by kernel_rfl}
end Go.Proofs
namespace Go.Proofs.YtfpfpnhpbnnmfadGreatDoor
section
open Go.RowKit
theorem contains_any (s:ByteArray)(c:UInt8)(w:World):
 Calls Tryz.prog 16 #[.string s,.string ⟨#[c]⟩] w fun e w'=>e=.returned (.bool (decide (0≤Lib.indexByte s.data.toList c)))∧w'=w:=Any.strings_Contains_one Tryz.lays144 s c w
theorem fields_any (g:Nat)(lb:Array Value)(eg:∀args w,(callFunc g args).run Tryz.prog w=.ok (.enter g args) w)(p:Nat→Bool)(s:ByteArray)(w:World)(hs:s.size≤4294967296)(hp:PredAtRunes Tryz.prog g lb p w):
 Calls Tryz.prog 18 #[.string s,.func (.func g) #[] lb] w fun e w'=>∃A,e=.returned (.slice (some ⟨A,0,none⟩) (Lib.goFieldsP p s).length (Lib.goFieldsP p s).length)∧w.heap.size≤A∧
  w'.ownsRow w.heap.size 9 1 (.slice (some ⟨A,0,none⟩) (Lib.goFieldsP p s).length (Lib.goFieldsP p s).length) (Lib.goFieldsP p s).length ((Lib.goFieldsP p s).map Value.string)∧Below w.heap.size w w':=
 Any.strings_FieldsFunc_runes Tryz.lays229 g lb eg p s w hs hp kr_ kr_
theorem atoi_ok (s:ByteArray)(hs:s.size≤100000)(v:Int)(h:Lib.atoiAll s.data.toList=.ok v)(w:World):
 Calls Tryz.prog 66 #[.string s] w fun e w'=>e=.returned (.tuple #[.int .i64 v,.nilIface])∧Below w.heap.size w w':=by
 refine(Any.strconv_Atoi_ok Tryz.laysC172 s om_ v h w).mono fun e w' ⟨he,hw⟩=>⟨he,?_⟩;rcases hw with rfl|⟨t,rfl⟩
 ·exact gX _ _
 ·exact Lib.bytesWorld_below _ _ _
def Ers (w:World):Prop:=(∃ev,w.cell? ⟨2,0,none⟩=some ev∧(ev=.nilIface∨∃te pe,ev=.iface te pe))∧(∃ev,w.cell? ⟨3,0,none⟩=some ev∧(ev=.nilIface∨∃te pe,ev=.iface te pe))
theorem atoi_no (s:ByteArray)(hs:s.size≤100000)(h:∀v,Lib.atoiAll s.data.toList≠.ok v)(w:World)(he:Ers w):
 Calls Tryz.prog 66 #[.string s] w fun e w'=>(∃n t a,e=.returned (.tuple #[.int .i64 n,.iface t (.pointer (some a))]))∧Below w.heap.size w w':=by
 obtain⟨⟨e1,c1,k1⟩,⟨e2,c2,k2⟩⟩:=he;rcases hc:Lib.atoiAll s.data.toList with v|_|_
 ·exact absurd hc (h v)
 ·exact(Any.strconv_Atoi_syntax Tryz.laysC172 s om_ hc e1 w c1 k1).mono fun e w' ⟨N,he,_,_,hb⟩=>⟨⟨_,_,_,he⟩,hb⟩
 ·exact(Any.strconv_Atoi_range Tryz.laysC172 s om_ hc e2 w c2 k2).mono fun e w' ⟨N,he,_,_,hb⟩=>⟨⟨_,_,_,he⟩,hb⟩
theorem clone_any (s:ByteArray)(hs:s.size≤100000)(w:World):
 Calls Tryz.prog 105 #[.string s] w fun e w'=>e=.returned (.string s)∧Below w.heap.size w w':=by
 have D:=AnyPu.stringslite_Clone Tryz.laysPu25 s w om_;go_enter Tryz.func105,Tryz.ntmps105;go_wp2_with(go_at_call 141;refine D.mono ?_);rintro e w1 ⟨rfl,b1⟩;go_wp2_with fail;go_ret;exact⟨rfl,b1⟩
end
section
open Go.RowKit
open Idl (Stp chk stpA strs)
def Frs (W:World):Prop:=∃g o c,W.cell? ⟨0,0,none⟩=some (.slice (some ⟨g,o,none⟩) 16 c)∧∀k f,Dsk.frms[k]? =some f→W.cell? ⟨g,o+k*3,none⟩=some (.string f.word)∧W.cell? ⟨g,o+k*3+1,none⟩=some (.string f.places)∧W.cell? ⟨g,o+k*3+2,none⟩=some (.int .i64 f.kind)
structure aW (W:World):Prop where
 tab:Tab W
 frs:Frs W
 ers:Ers W
theorem aq {w W:World}(hb:Below w.heap.size w W){a:Addr}{v:Value}(h:w.cell? a=some v):W.cell? a=some v:=(hb.cell (Lib.lt_of_cell h)).trans h
theorem aW.at {w W:World}(h:aW w)(hb:Below w.heap.size w W):aW W:=by
 refine⟨bu h.tab (hb.block _ (fj h.tab)),?_,?_⟩
 ·obtain⟨g,o,c,h1,h2⟩:=h.frs;exact⟨g,o,c,aq hb h1,fun k f hf=>⟨aq hb (h2 k f hf).1,aq hb (h2 k f hf).2.1,aq hb (h2 k f hf).2.2⟩⟩
 ·obtain⟨⟨e1,c1,k1⟩,⟨e2,c2,k2⟩⟩:=h.ers;exact⟨⟨e1,aq hb c1,k1⟩,⟨e2,aq hb c2,k2⟩⟩
theorem dH (s:ByteArray)(hs:s.size≤100000)(W:World)(tb:aW W):
 Calls Tryz.prog 104 #[.string s] W fun e w'=>e=.returned (.int .i64 (Dsk.num s))∧Below W.heap.size W w':=by
 by_cases hk:∃v,Lib.atoiAll s.data.toList=.ok v
 case neg=>
  have EN:=ae (show Dsk.num s= -1 by
   unfold Dsk.num;split
   ·rename_i v h;exact absurd ⟨v,h⟩ hk
   ·rfl)
  have D:=ae (atoi_no s hs (fun v h=>hk ⟨v,h⟩) W tb.ers);clear hk tb;go_enter Tryz.func104,Tryz.ntmps104;go_wp2_with fail;refine(ac D).mono ?_;rintro e w1 ⟨⟨n,t,a,rfl⟩,b1⟩;clear D;go_wp2_with fail;go_ret;exact⟨by rw[ac EN];rfl,b1⟩
 case pos=>
  obtain⟨v,hv⟩:=hk;have D:=ae (atoi_ok s hs v hv W);have vb:=Lib.atoiAll_bounds hv;by_cases h0:v<0
  case pos=>
   have d0:decide (v<0)=true:=by simpa using h0
   have EN:=ae (show Dsk.num s= -1 by unfold Dsk.num;rw[hv];exact if_pos h0);clear hv tb h0;go_enter Tryz.func104,Tryz.ntmps104;go_wp2_with fail;refine(ac D).mono ?_;rintro e w1 ⟨rfl,b1⟩;clear D;go_wp2_with fail;go_ret;exact⟨by rw[ac EN];rfl,b1⟩
  case neg=>
   have d0:decide (v<0)=false:=by simpa using h0
   have I:=ae (fun V (hb:Below W.heap.size W V)=>dC v vb.1 vb.2 V (tb.at hb).tab);obtain⟨z,hz⟩:∃z:List UInt8,z=Lib.itoa v:=⟨_,rfl⟩;rw[←hz]at I;by_cases he:z=s.data.toList
   case pos=>
    have EN:=ae (show Dsk.num s=v by unfold Dsk.num;rw[hv];simp only;rw[if_neg h0,if_pos (by rw[←hz];exact he)]);have ES:(⟨z.toArray⟩:ByteArray)=s:=by rw[he]
    rw[ES]at I;clear hv tb h0 hz he ES z;go_enter Tryz.func104,Tryz.ntmps104;go_wp2_with fail;refine(ac D).mono ?_;rintro e w1 ⟨rfl,b1⟩;clear D;go_wp2_with fail;refine(ac I _ b1).mono ?_;rintro e w2 ⟨rfl,b2⟩;have b3:=b1.trans (b2.mono b1.size);clear b2 I;go_wp2_with fail;go_ret;exact⟨by rw[ac EN];rfl,b3⟩
   case neg=>
    have EN:=ae (show Dsk.num s= -1 by unfold Dsk.num;rw[hv];simp only;rw[if_neg h0,if_neg (by rw[←hz];exact he)]);have ES:(z==s.toList)=false:=by
     rw[beq_eq_false_iff_ne];intro z2;exact he (by rw[z2,ByteArray.toList_eq])
    clear hv tb h0 hz he;go_enter Tryz.func104,Tryz.ntmps104;go_wp2_with fail;refine(ac D).mono ?_;rintro e w1 ⟨rfl,b1⟩;clear D;go_wp2_with fail;refine(ac I _ b1).mono ?_;rintro e w2 ⟨rfl,b2⟩;have b3:=b1.trans (b2.mono b1.size);clear b2 I;go_wp2_with fail;go_ret;exact⟨by rw[ac EN];rfl,b3⟩
theorem fbool_any (b:Bool)(w:World):Calls Tryz.prog 56 #[.bool b] w fun e w'=>e=.returned (.string ⟨(Dsk.yes b).toArray⟩)∧w'=w:=by
 cases b
 all_goals
  go_enter Tryz.func56,Tryz.ntmps56
  go_wp2
  go_ret
  exact⟨rfl,rfl⟩
theorem isBlank_any (x:Nat)(w:World):Calls Tryz.prog 19 #[.int .i32 (x:Int)] w fun e w'=>e=.returned (.bool (x==32))∧w'=w:=by
 have E:((x:Int)==32)=(x==32):=by
  rw[Bool.eq_iff_iff];simp;omega
 go_enter Tryz.func19,Tryz.ntmps19;go_wp2;go_ret;exact⟨by first|rfl|(rw[E])|simp[E],rfl⟩
theorem words_any (s:ByteArray)(hs:s.size≤100000)(w:World):
 Calls Tryz.prog 18 #[.string s,.func (.func 19) #[] #[]] w fun e w'=>∃A,e=.returned (.slice (some ⟨A,0,none⟩) (Dsk.words s).length (Dsk.words s).length)∧w.heap.size≤A∧
  w'.ownsRow w.heap.size 9 1 (.slice (some ⟨A,0,none⟩) (Dsk.words s).length (Dsk.words s).length) (Dsk.words s).length (strs (Dsk.words s))∧Below w.heap.size w w':=
 fields_any 19 #[] (enters_of Tryz.func19 kr_ rfl) (fun r=>r==32) s w om_ (fun W x _ _=>(isBlank_any x W).mono fun e w' ⟨he,hw⟩=>⟨he,0,hw⟩)
def dw (ns:List Int):List ByteArray:=ns.map fun n=>⟨(Lib.itoa n).toArray⟩
def dL (ns:List Int)(i:Nat):List Value:=strs (dw (ns.take i))++List.replicate (ns.length-i) (.string ⟨#[]⟩)
theorem decRow_zero (ns:List Int):dL ns 0=List.replicate ns.length (.string ⟨#[]⟩):=by simp[dL,dw,strs]
theorem decRow_all (ns:List Int):dL ns ns.length=strs (dw ns):=by simp[dL]
theorem decRow_set (ns:List Int)(i:Nat)(n:Int)(h:ns[i]? =some n):(dL ns i).set i (.string ⟨(Lib.itoa n).toArray⟩)=dL ns (i+1):=by
 have hi:i<ns.length:=(ip.1 h).1;have ht:ns.take (i+1)=ns.take i++[n]:=by rw[List.take_add_one,h];rfl
 have hr:List.replicate (ns.length-i) (Value.string ⟨#[]⟩)=Value.string ⟨#[]⟩::List.replicate (ns.length-(i+1)) (Value.string ⟨#[]⟩):=by
  rw[show ns.length-i=(ns.length-(i+1))+1 by omega,List.replicate_succ]
 have hl:(strs (dw (ns.take i))).length=i:=by simp[strs,dw];omega
 unfold dL;rw[ht,hr];have hm:=Lib.set_mid (strs (dw (ns.take i))) (Value.string ⟨#[]⟩) (.string ⟨(Lib.itoa n).toArray⟩) (List.replicate (ns.length-(i+1)) (Value.string ⟨#[]⟩));rw[hl]at hm;rw[hm];simp[strs,dw]
def ints (ns:List Int):List Value:=ns.map (.int .i64)
theorem str_info9:(Tryz.prog.info? 9).map (fun i=>(i.zero,i.size,i.bytes))=some (some (.string ⟨#[]⟩),1,16):=kr_
theorem fe {B:Nat}(ns:List Int)(hN:ns.length≤1000)(hR:∀n∈ns,I64 n)(v0:Value)(W:World)(h0:W.ownsRow B 3 1 v0 ns.length (ints ns))(hB:B≤W.heap.size)(tb:aW W):
 Calls Tryz.prog 63 #[v0] W fun e w'=>∃v,e=.returned v∧w'.ownsRow W.heap.size 9 1 v ns.length (strs (dw ns))∧Below W.heap.size W w':=by
 obtain⟨i9,hi9',hz90,hz91,hz92⟩:=info_parts str_info9;obtain⟨W5,hmk5,hown5,hgr5⟩:=run_make_full (P:=Tryz.prog) W W.heap.size 22 9 i9 _ 1 Tryz.underlying22 hi9' hz90 hz91 .i64 .i64 ns.length (by rw[hz92];omega) (by unfold maxLen;omega) (gY _);have hb5:Below W.heap.size W W5:=(gX _ W).grown hgr5 (gY _) (fun k hk=>by cases hk);rw[show(Value.string ⟨#[]⟩).cells= #[Value.string ⟨#[]⟩]from rfl,Nat.mul_one,toList_madeCells_one,←decRow_zero ns]at hown5;have OW:=ae hown5;have BW:=ae hb5;have TB:=ae tb;have RR:=ae hR;have form:∃a c,v0=.slice a ns.length c∧∀(i:Nat) n,ns[i]? =some n→∃g,a=some ⟨g,0,none⟩∧g<W.heap.size∧W.cell? ⟨g,i,none⟩=some (.int .i64 n):=by
  rcases h0.2 with⟨hv,hz⟩|⟨g,cap,cur,hv,_,hg,_⟩
  ·exact⟨none,0,by rw[hv,hz],fun i n h=>by have:=(ip.1 h).1;omega⟩
  ·refine⟨some ⟨g,0,none⟩,cap,hv,fun i n h=>⟨g,rfl,(gW.1 hg).1,?_⟩⟩;have hlt:=(ip.1 h).1;rw[hv]at h0;rw[h0.cellAt i om_];simp[ints,h]
 obtain⟨a,c,rfl,hc⟩:=form;have HC:=ae hc;clear h0 hown5 hb5 tb hR hgr5 hc;go_enter Tryz.func63,Tryz.ntmps63;go_wp2_with fail;go_loopw [11] (fun s wr=>∃i:Nat,i≤ns.length∧s=.int .i64 i∧Hid (wr.ownsRow W.heap.size 9 1 (.slice (some ⟨W.heap.size,0,none⟩) ns.length ns.length) ns.length (dL ns i))∧Hid (Below W.heap.size W wr)) (fun s _=>ns.length-(intOf s).toNat)
 case atStart=>exact⟨0,hZ _,rfl,OW,BW⟩
 case round=>
  clear OW BW hmk5;obtain⟨i,hi,rfl,OW,BW⟩:=hrel;by_cases hlt:i<ns.length
  case pos=>
   have hz:(i:Int)<(ns.length:Int):=om_;obtain⟨n,hn⟩:∃n,ns[i]? =some n:=⟨_,iB hlt⟩;obtain⟨g,rfl,hg,hcell⟩:=ac HC i n hn;have hcW:wr.cell? ⟨g,i,none⟩=some (.int .i64 n):=aq (ac BW) hcell;have hr:=ac RR n (List.mem_of_getElem? hn);have I:=ae (dC n hr.1 hr.2 wr ((ac TB).at (ac BW)).tab);have NS:=ae (decRow_set ns i n hn);clear hcell hr;go_wp2_with fail;refine(ac I).mono ?_;rintro e w2 ⟨rfl,b2⟩;have O2:=ae (Idl.ownsRow_of_block (ac OW) (fun k hk=>b2.block k ((ac OW).lt k hk).2));have B2:=ae ((ac BW).trans (b2.mono (ac BW).size));obtain⟨old,hold⟩:∃old,(dL ns i)[i]? =some old:=⟨_,iB (by have:=(ac O2).1;omega)⟩;have hcA:=((ac O2).cellAt i om_).trans hold;have hfA:=(ac O2).frozenAt i;have ST:=ae ((ac O2).stored i (.string ⟨(Lib.itoa n).toArray⟩));rw[ac NS]at ST;clear b2 I hold NS hcW;go_wp2_with fail;go_roundw
   case rel=>exact⟨i+1,om_,by go_num,ae (ac ST).1,ae ((ac B2).grown (ac ST).2 (ac B2).size (fun k hk=>by cases hk;exact gY _))⟩
   case measure=>simp[intOf];omega
  case neg=>
   have hz:¬(i:Int)<(ns.length:Int):=om_;obtain rfl:i=ns.length:=om_;go_wp2_with fail;go_ret;exact⟨_,rfl,by rw[←decRow_all];exact ac OW,ac BW⟩
end
section
open Go.RowKit
open Idl (Stp chk stpA)
section
variable {w W W':World}{bl bf bc:Nat}{S:Lv}
theorem Lv.step_seven (S:Lv){x:Stp}(h:x.kind=7):S.step x={S with disk:=Img.write S.now S.disk x.p}∧S.code x=(if Img.inB x.p=true then 0 else 1):=by
 unfold Lv.step Lv.code Img.lnow Img.ldisk Img.llast Img.lcode;rw[h];exact⟨rfl,rfl⟩
theorem Lv.step_eight (S:Lv){x:Stp}(h:x.kind=8):S.step x={S with disk:=(Img.syn S.now 8 S.disk).2}∧S.code x=0:=by
 unfold Lv.step Lv.code Img.lnow Img.ldisk Img.llast Img.lcode;rw[h];exact⟨rfl,rfl⟩
theorem Lv.step_nine (S:Lv){x:Stp}(h:x.kind=9):S.step x=S.crash∧S.code x=0:=by
 unfold Lv.step Lv.code Img.lcode;rw[if_pos h,if_pos h];exact⟨rfl,rfl⟩
theorem Lv.step_file (S:Lv){x:Stp}(h:x.kind≠7∧x.kind≠8∧x.kind≠9):S.step x={S with now:=Img.sstep S.now S.disk S.last x,last:=Img.slast S.now S.disk S.last x}∧S.code x=Img.scode S.now S.disk x:=by
 obtain⟨h1,h2,h3⟩:=h;unfold Lv.step Lv.code Img.lnow Img.ldisk Img.llast Img.lcode;simp only[if_neg h1,if_neg h2,if_neg h3,if_neg (show ¬(x.kind=7∨x.kind=8)by omega)];exact⟨trivial,trivial⟩
theorem Op1.ld_files {o:Oper}{ρ:Operand→Value}(x:Operand)(ho:o.op=.load 60 x){g o0:Nat}(hx:ρ x=.pointer (some ⟨g,o0,none⟩)){p:Option Addr}(w:World)(h:w.cell? ⟨g,o0,none⟩=some (.pointer p)):(execOp ρ o).run Tryz.prog w=.ok (.value (.pointer p)) w:=by
 unfold execOp;rw[ho];go_simp
theorem Lc.below {B:World}{bf' bc':Nat}(hb:Below W.heap.size W B)(h:Lc bl bf bc bf' bc' B W'):Lc bl bf bc bf' bc' W W':=(Lc.of_below hb).trans h
theorem aJ:(Tryz.prog.info? 84).map (·.size)=some 7:=kr_
theorem aU:Tryz.prog.underlying 84=some (.struct (Tryz.prog.fieldsOf 84)):=kr_
theorem lStep_none (h:Lo w bl bf bc S W){n:Nat}(hO:S.Ok n)(hn:n≤1000000)(x:Stp)(hx:x.kind=7∨x.kind=8∨x.kind=9):
 Calls Tryz.prog 52 #[.pointer (some ⟨bl,0,none⟩),.agg (stpA x)] W fun e w'=>e=.returned (.int .i64 (S.code x))∧∃bf' bc',Lo w bl bf' bc' (S.step x) w'∧Lc bl bf bc bf' bc' W w':=by
 have hB:Below W.heap.size W (W.alloc (.cells (stpA x) 84)):=(gX _ W).alloc (gY _) _;have L1:=ae (h.call hB);have BB:=ae hB;have r1:(W.alloc (.cells (stpA x) 84)).heap[W.heap.size]? =some (.cells (stpA x) 84):=iV _ _;have e0:(W.alloc (.cells (stpA x) 84)).cell? ⟨W.heap.size,0,none⟩=some (.int .i64 x.kind):=by rw[iW _ _ _ _ _ _ r1];rfl
 have e3:(W.alloc (.cells (stpA x) 84)).cell? ⟨W.heap.size,3,none⟩=some (.int .i64 x.p):=by rw[iW _ _ _ _ _ _ r1];rfl
 have c1:=(ac L1).ptr;have c2:=(ac L1).ptr2;have C7:=ae (lWrite_any (ac L1) x.p);have C8:=ae (ac L1).fo.sync;have C9:=ae (lCrash_any (ac L1) hO.hold.ok ⟨hO.cr0,by have:=hO.crn;omega⟩);clear h hB r1 hO hn;obtain⟨kind,dir,toDir,p,name,tu,text⟩:=x;simp only at hx;rcases hx with rfl|rfl|rfl
 ·rw[(S.step_seven (x:=⟨7,dir,toDir,p,name,tu,text⟩) rfl).1,(S.step_seven (x:=⟨7,dir,toDir,p,name,tu,text⟩) rfl).2];simp only[stpA]at L1 BB e0 e3 c1 c2 C7 C8 C9⊢;generalize(if Img.inB p=true then(0:Int)else 1)=cd at C7⊢;go_enter Tryz.func52,Tryz.ntmps52;go_wp2_with fail;refine(ac C7).mono ?_;rintro e w' ⟨rfl,h1,h2⟩;have R:=ae (And.intro h1 (h2.below (ac BB)));clear h1 h2;go_wp2_with fail;go_ret;exact⟨rfl,bf,bc,(ac R).1,(ac R).2⟩
 ·rw[(S.step_eight (x:=⟨8,dir,toDir,p,name,tu,text⟩) rfl).1,(S.step_eight (x:=⟨8,dir,toDir,p,name,tu,text⟩) rfl).2];simp only[stpA]at L1 BB e0 e3 c1 c2 C7 C8 C9;go_enter Tryz.func52,Tryz.ntmps52;go_wp2_with fail;refine(ac C8).mono ?_;rintro e w' ⟨rfl,h1,h2⟩;have R0:=Fo.fmut (ac L1) h1 h2;have R:=ae (And.intro R0.1 (R0.2.below (ac BB)));clear h1 h2 R0;go_wp2_with fail;go_ret;exact⟨rfl,bf,bc,(ac R).1,(ac R).2⟩
 ·rw[(S.step_nine (x:=⟨9,dir,toDir,p,name,tu,text⟩) rfl).1,(S.step_nine (x:=⟨9,dir,toDir,p,name,tu,text⟩) rfl).2];simp only[stpA]at L1 BB e0 e3 c1 c2 C7 C8 C9;go_enter Tryz.func52,Tryz.ntmps52;go_wp2_with fail;refine(ac C9).mono ?_;rintro e w' ⟨rfl,bf',bc',h1,h2⟩;have R:=ae (And.intro h1 (h2.below (ac BB)));clear h1 h2;go_wp2_with fail;go_ret;exact⟨rfl,bf',bc',(ac R).1,(ac R).2⟩
theorem lStep_file (h:Lo w bl bf bc S W){n:Nat}(hO:S.Ok n)(hn:n≤1000000)(x:Stp)(h1:x.name.size≤maxLen)(h2:x.to.size≤maxLen)(h3:x.text.size≤maxLen)(hx:x.kind≠7∧x.kind≠8∧x.kind≠9):
 Calls Tryz.prog 52 #[.pointer (some ⟨bl,0,none⟩),.agg (stpA x)] W fun e w'=>e=.returned (.int .i64 (S.code x))∧∃bf' bc',Lo w bl bf' bc' (S.step x) w'∧Lc bl bf bc bf' bc' W w':=by
 have hB:Below W.heap.size W (W.alloc (.cells (stpA x) 84)).drew:=((gX _ W).alloc (gY _) _).drew;have L1:=ae (h.call hB);have BB:=ae hB;have hl:=h.lt;have r1:(W.alloc (.cells (stpA x) 84)).heap[W.heap.size]? =some (.cells (stpA x) 84):=iV _ _;have R1:=ae (show(W.alloc (.cells (stpA x) 84)).drew.heap[W.heap.size]? =some (.cells (stpA x) 84)from r1);have e0:(W.alloc (.cells (stpA x) 84)).cell? ⟨W.heap.size,0,none⟩=some (.int .i64 x.kind):=by rw[iW _ _ _ _ _ _ r1];rfl
 have k7:(x.kind==7)=false:=by simpa using hx.1
 have k8:(x.kind==8)=false:=by simpa using hx.2.1
 have k9:(x.kind==9)=false:=by simpa using hx.2.2
 have NX:=ae (show W.heap.size≠bl∧W.heap.size≠bf∧W.heap.size≠bc by have:=h.fo.cells.2.1;have:=h.fo.cells.2.2.1;omega);have CF:=ae ((ac L1).fo.step hO.hold.good (by have:=hO.few;omega) x h1 h2 h3);rw[(S.step_file hx).1,(S.step_file hx).2];clear h hB r1 hO hn h1 h2 h3 hx;go_enter Tryz.func52,Tryz.ntmps52;go_upto_region 9 with fail
 refine iU (S:=fun V=>V.cell? ⟨bl,0,none⟩=some (.pointer (some ⟨bf,0,none⟩))∧V.heap[W.heap.size]? =some (.cells (stpA x) 84)) kr_ (⟨(ac L1).ptr,ac R1⟩) (fun hS=>?_);refine tkQ 0 bl 0 rfl hS ?_;refine tkQ 1 bl 0 rfl hS ?_;refine tkQ 2 bl 0 rfl hS ?_;refine tkH 3 (.pointer (some ⟨bf,0,none⟩)) rfl (fun W h=>Op1.ld_files _ rfl kr_ W h.1) hS ?_;refine tkH 4 (.agg (stpA x)) rfl (fun W h=>aD 84 (.tmp 3) kr_ _ kr_ W 84 (stpA x) (0,0) _ h.2 aU rfl aJ) hS ?_;refine tkO 5 rfl (fun K hK=>?_);go_simp;refine(ac CF).mono ?_;rintro e w2 ⟨rfl,hf,hc⟩;have rl:w2.heap[bl]? =some (.cells (lvA bf S) 65):=by rw[hc.block bl (ac L1).lt (fun z=>by rcases z with z|z;exact(ac L1).nf z;exact(ac L1).nc z)];exact(ac L1).root
 have rb:w2.heap[W.heap.size]? =some (.cells (stpA x) 84):=by rw[hc.block _ (gW.1 (ac R1)).1 (fun z=>by rcases z with z|z;exact(ac NX).2.1 z;exact(ac NX).2.2 z)];exact ac R1
 have S2:w2.cell? ⟨bl,0,none⟩=some (.pointer (some ⟨bf,0,none⟩))∧w2.heap[W.heap.size]? =some (.cells (stpA x) 84):=⟨by rw[iW _ _ _ _ _ _ rl];rfl,rb⟩;have FF:=ae (show Lo w bl bf bc {S with now:=Img.sstep S.now S.disk S.last x,last:=Img.slast S.now S.disk S.last x} w2∧Lc bl bf bc bf bc W w2 from⟨⟨hf,rl,(ac L1).l0,(ac L1).nf,(ac L1).nc⟩,h_ (ac BB).size hc.size,fun j hj a b c=>by rw[hc.block j (ij hj (ac BB).size) (fun z=>by rcases z with z|z;exact b z;exact c z),(ac BB).block j hj],.inl ⟨rfl,rfl⟩⟩);clear hf hc rl rb;go_wp2_with fail;refine hK.out _ _ S2 (fun hS2=>?_);clear hK K;try simp only[Zsm]
 refine tkP 6 (.int .i64 (Img.scode S.now S.disk x)) rfl hS2 ?_;refine tkD ?_;clear hS hS2;go_wp2_with fail;go_ret;exact⟨rfl,bf,bc,(ac FF).1,(ac FF).2⟩
theorem lStep_any (h:Lo w bl bf bc S W){n:Nat}(hO:S.Ok n)(hn:n≤1000000)(x:Stp)(h1:x.name.size≤maxLen)(h2:x.to.size≤maxLen)(h3:x.text.size≤maxLen):
 Calls Tryz.prog 52 #[.pointer (some ⟨bl,0,none⟩),.agg (stpA x)] W fun e w'=>e=.returned (.int .i64 (S.code x))∧∃bf' bc',Lo w bl bf' bc' (S.step x) w'∧Lc bl bf bc bf' bc' W w':=by
 by_cases hx:x.kind=7∨x.kind=8∨x.kind=9
 ·exact lStep_none h hO hn x hx
 ·exact lStep_file h hO hn x h1 h2 h3 om_
theorem lCrashes_any (h:Lo w bl bf bc S W):Calls Tryz.prog 64 #[.pointer (some ⟨bl,0,none⟩)] W fun e w'=>e=.returned (.int .i64 S.cr)∧w'=W:=by
 have c1:=h.crs;clear h;go_enter Tryz.func64,Tryz.ntmps64;go_wp2_with fail;go_ret;exact⟨rfl,rfl⟩
theorem lLost_any (h:Lo w bl bf bc S W):Calls Tryz.prog 62 #[.pointer (some ⟨bl,0,none⟩)] W fun e w'=>e=.returned (.agg (cx S.lf S.lc S.ld))∧Below W.heap.size W w':=by
 have hl:=h.lt;have r0:=h.root;have r1:=ae (show(W.alloc (.cells (cx 0 0 0) 63)).heap[bl]? =some (.cells (lvA bf S) 65)by rw[im _ _ _ hl];exact r0);have s1:=ae (iV W (.cells (cx 0 0 0) 63));have ex:(lvA bf S).extract 2 (2+3)=cx S.lf S.lc S.ld:=rfl;clear h r0;unfold cx at s1 r1;go_enter Tryz.func62,Tryz.ntmps62;go_wp2_with(first|(have hx:=ac r1;refine ar rfl 63 _ rfl bl 2 3 rfl 65 (lvA bf S) _ hx cD rfl bC (by unfold lvA;simp) ?_;rw[ex];clear hx r1)|(have hx:=ac s1;refine wpList_store_row rfl 63 _ _ rfl W.heap.size (cx S.lf S.lc S.ld) rfl rfl 63 _ hx bC rfl (gr S.lf S.lc S.ld) ?_;clear hx));refine bodyPost_ret (v:=.agg (cx S.lf S.lc S.ld)) ?_ rfl ⟨rfl,ah ((gX _ _).alloc (gY _) _) (gY _) _⟩;exact results_cell_row (P:=Tryz.prog) Tryz.results62 _ _ W.heap.size 63 _ (0,0) _ rfl (setRow_heap _ _ _ _ _ _ (ac s1)) cD rfl bC
end
end
section
open Go.RowKit
open Idl (Stp chk stpA strs one_new one_str)
section
variable {w W W':World}{bl bf bc:Nat}{S:Lv}
theorem Img.Hold.clean {m k:Img}{last:Int}(h:Img.Hold m k last):Img.Hold m m last:=⟨h.good,h.good.ex.ok,Img.fit_self h.good.ex.ok,fun n hn hl=>h.good.last n hn hl⟩
theorem Lo.clean (h:Lo w bl bf bc S W)(ha:Img.Agree S.now S.disk):Lo w bl bf bc {S with disk:=S.now} W:=by
 refine⟨?_,h.root,h.l0,h.nf,h.nc⟩;obtain⟨⟨cs,ds,f⟩,h2,h3,h4⟩:=h.fo;have e:cs=ds:=f.now.agree f.disk ha;subst e;exact⟨⟨cs,cs,f.root,f.row,f.now,f.now,f.ne⟩,h2,h3,h4⟩
theorem Lv.Ok.clean {n:Nat}(h:S.Ok n):Lv.Ok {S with disk:=S.now} n:=⟨h.hold.clean,h.few,h.cr0,h.crn⟩
end
end
section
open Go.RowKit
open Idl (Stp chk stpA strs)
namespace Dsk
def cat:List (List UInt8)→List UInt8
 |[]=>[]
 |x::r=>32::(x++cat r)
theorem cat_append:∀a b,cat (a++b)=cat a++cat b
 |[],_=>rfl
 |x::a,b=>by show 32::(x++cat (a++b))=32::(x++cat a)++cat b;rw[cat_append];simp
theorem tail_cat:∀r,Txt.tailW r=cat r++[10]
 |[]=>rfl
 |x::r=>by show 32::(x++Txt.tailW r)=_;rw[tail_cat r];simp[cat]
def pre (l:List UInt8)(x:List UInt8)(ws:List (List UInt8))(i:Nat):List UInt8:=l++(x++cat (ws.take i))
theorem pre_zero (l x:List UInt8)(ws:List (List UInt8)):pre l x ws 0=l++x:=by simp[pre,cat]
theorem pre_succ {l x y:List UInt8}{ws:List (List UInt8)}{i:Nat}(h:ws[i]? =some y):pre l x ws (i+1)=(pre l x ws i++[32])++y:=by
 unfold pre;rw[List.take_add_one,h,cat_append];simp[cat]
theorem pre_all (l x:List UInt8)(ws:List (List UInt8)):pre l x ws ws.length++[10]=l++Txt.line (x::ws):=by
 unfold pre;rw[List.take_length,show Txt.line (x::ws)=x++Txt.tailW ws from rfl,tail_cat];simp
theorem pre_len (l x:List UInt8)(ws:List (List UInt8))(i:Nat):(pre l x ws i).length+1≤l.length+(Txt.line (x::ws)).length:=by
 have h:=congrArg List.length (pre_all l x ws);have h2:(pre l x ws i).length≤(pre l x ws ws.length).length:=by
  unfold pre;have:=congrArg List.length (cat_append (ws.take i) (ws.drop i));rw[iS,gZ]at this;rw[List.take_length];simp only[gZ];omega
 simp only[gZ,ig,iN]at h;omega
end Dsk
theorem Fo.drt9 {w W:World}{bf bc:Nat}{m k:Img}{last:Int}(h:Fo w bf bc m k last W)(b:Int):Calls Tryz.prog 92 #[.pointer (some ⟨bc,0,none⟩),.int .i64 b] W fun e w'=>e=.returned (.bool (Img.dirty m k b))∧Below W.heap.size W w':=by
 obtain⟨cs,ds,f⟩:=h.it;exact cDirty_any bc cs ds m k f.now f.disk b W f.row
section
variable {w W W':World}{B bd bl bf bc:Nat}{S:Lv}{l:List UInt8}
theorem df_cell (hd:Df B bd W W'){g:Nat}(hl:g<W.heap.size)(hn:g≠bd)(hb:NB W g){o:Nat}{v:Value}(h:W.cell? ⟨g,o,none⟩=some v):W'.cell? ⟨g,o,none⟩=some v:=by
 unfold World.cell? at h⊢;rw[show W'.heap[(⟨g,o,none⟩:Addr).block]? =W.heap[(⟨g,o,none⟩:Addr).block]? from hd.old g hl hn (.inr hb)];exact h
theorem strs_form {B0:Nat}{ws:List ByteArray}{v:Value}(hv:W.ownsRow B0 9 1 v ws.length (strs ws))(hd:∃cs,W.heap[bd]? =some (.cells cs 46)):∃a c,v=.slice a ws.length c∧∀(i:Nat) x,ws[i]? =some x→∃g,a=some ⟨g,0,none⟩∧g<W.heap.size∧g≠bd∧NB W g∧W.cell? ⟨g,i,none⟩=some (.string x):=by
 rcases hv.2 with⟨h,hz⟩|⟨g,cap,cur,h,_,hg,_⟩
 ·exact⟨none,0,by rw[h,hz],fun i n e=>by have:=(ip.1 e).1;omega⟩
 ·obtain⟨cs,hd⟩:=hd;refine⟨some ⟨g,0,none⟩,cap,h,fun i n e=>⟨g,rfl,(gW.1 hg).1,aH hg hd dc_,dy hg dc_,?_⟩⟩;have hlt:=(ip.1 e).1;rw[h]at hv;rw[hv.cellAt i om_];simp[strs,e]
theorem Dk.row (h:Dk w B bd bl bf bc S l W):∃cs,W.heap[bd]? =some (.cells cs 46):=by
 obtain⟨p,v,_,hb,_⟩:=h.it;exact⟨_,hb⟩
theorem dSay_any {B0:Nat}(h:Dk w B bd bl bf bc S l W)(word:ByteArray)(ws:List ByteArray)(v:Value)(hv:W.ownsRow B0 9 1 v ws.length (strs ws))(hn:ws.length≤1000)(hlen:l.length+(Txt.line (word.toList::ws.map (·.toList))).length≤140737488355328):
 Calls Tryz.prog 28 #[.pointer (some ⟨bd,0,none⟩),.string word,v] W fun e w'=>e=.returned (.tuple #[])∧Dk w B bd bl bf bc S (l++Txt.line (word.toList::ws.map (·.toList))) w'∧Df B bd W w':=by
 obtain⟨a,c,rfl,hc⟩:=strs_form hv h.row;have HC:=ae hc;have PA:=ae (Dsk.pre_all l word.toList (ws.map (·.toList)));have PL:=ae (fun i=>h_ (Dsk.pre_len l word.toList (ws.map (·.toList)) i) hlen);have PZ:=ae (Dsk.pre_zero l word.toList (ws.map (·.toList)));have D0:=ae (gI word h (by have:=ac PL 0;rw[ac PZ,gZ,ap]at this;omega));rw[←ac PZ]at D0;rw[←ac PA];rw[show(ws.map (·.toList)).length=ws.length by simp];have PS:=ae (fun i x (hx:ws[i]? =some x)=>Dsk.pre_succ (l:=l) (x:=word.toList) (ws:=ws.map (·.toList)) (i:=i) (y:=x.toList) (by simp[hx]));clear hc h hv hlen PA PZ;generalize Dsk.pre l word.toList (ws.map (·.toList))=pr at*;go_enter Tryz.func28,Tryz.ntmps28;go_wp2_with fail;refine(ac D0).mono ?_;rintro e w1 ⟨rfl,h1,f1⟩;have H1:=ae h1;have F1:=ae f1;clear h1 f1 D0;go_wp2_with fail;go_loopw [15] (fun s wr=>∃i:Nat,i≤ws.length∧s=.int .i64 i∧Hid (Dk w B bd bl bf bc S (pr i) wr)∧Hid (Df B bd W wr)) (fun s _=>ws.length-(intOf s).toNat)
 case atStart=>exact⟨0,hZ _,rfl,H1,F1⟩
 case round=>
  clear H1 F1;obtain⟨i,hi,rfl,H1,F1⟩:=hrel;by_cases hlt:i<ws.length
  case pos=>
   have hz:(i:Int)<(ws.length:Int):=om_;obtain⟨x,hx⟩:∃x,ws[i]? =some x:=⟨_,iB hlt⟩;obtain⟨g,rfl,hg1,hg2,hg3,hg4⟩:=ac HC i x hx;have hcW:wr.cell? ⟨g,i,none⟩=some (.string x):=df_cell (ac F1) hg1 hg2 hg3 hg4;have E:=ae (ac PS i x hx);have L0:=ac PL i;have L1:=ac PL (i+1);rw[ac E]at L1;have W1:=ae (dByte_any 32 (ac H1) om_);clear hg1 hg2 hg3 hg4;go_wp2_with fail;refine(ac W1).mono ?_;rintro e w2 ⟨rfl,h2,f2⟩;have F2:=ae ((ac F1).trans f2);have W2:=ae (gI x h2 (by rw[gZ,ap]at L1;omega));clear h2 f2 W1;go_wp2_with fail;refine(ac W2).mono ?_;rintro e w3 ⟨rfl,h3,f3⟩;have F3:=ae ((ac F2).trans f3);have H3:=ae (show Dk w B bd bl bf bc S (pr (i+1)) w3 by rw[ac E];exact h3);clear h3 f3 W2 F2;go_wp2_with fail;go_roundw
   case rel=>exact⟨i+1,om_,by go_num,H3,F3⟩
   case measure=>simp[intOf];omega
  case neg=>
   have hz:¬(i:Int)<(ws.length:Int):=om_;obtain rfl:i=ws.length:=om_;have W1:=ae (dByte_any 10 (ac H1) (ac PL _));go_wp2_with fail;refine(ac W1).mono ?_;rintro e w2 ⟨rfl,h2,f2⟩;have F2:=ae ((ac F1).trans f2);have H2:=ae h2;clear h2 f2 W1;go_wp2_with fail;go_end0;exact⟨rfl,ac H2,ac F2⟩
theorem strs_none (W:World):W.ownsRow 0 9 1 (.slice none 0 0) ([]:List ByteArray).length (strs []):=World.ownsRow_nil _ _ _ _
theorem strs_one (W:World)(x:ByteArray):(W.alloc (.cells #[.string x] 9)).ownsRow 0 9 1 (.slice (some ⟨W.heap.size,0,none⟩) 1 1) [x].length (strs [x]):=
 ⟨rfl,.inr ⟨W.heap.size,1,_,rfl,hZ _,iV _ _,gY _,by unfold maxLen;decide,rfl,rfl⟩⟩
theorem dSay_w {B0:Nat}(h:Dk w B bd bl bf bc S l W)(x:List UInt8)(xs:List (List UInt8))(ws:List ByteArray)(hw:ws.map (·.toList)=xs)(v:Value)(hv:W.ownsRow B0 9 1 v ws.length (strs ws))(hn:ws.length≤1000)(hlen:l.length+(Txt.line (x::xs)).length≤140737488355328):
 Calls Tryz.prog 28 #[.pointer (some ⟨bd,0,none⟩),.string ⟨x.toArray⟩,v] W fun e w'=>e=.returned (.tuple #[])∧Dk w B bd bl bf bc S (l++Txt.line (x::xs)) w'∧Df B bd W w':=by
 have h1:=dSay_any h ⟨x.toArray⟩ ws v hv hn (by rw[hw,ByteArray.toList_mk];exact hlen);rw[hw,ByteArray.toList_mk]at h1;exact h1
theorem cG (h:Dk w B bd bl bf bc S l W)(x:List UInt8)(hlen:l.length+x.length+10≤140737488355328):
 Calls Tryz.prog 28 #[.pointer (some ⟨bd,0,none⟩),.string ⟨x.toArray⟩,.slice none 0 0] W fun e w'=>e=.returned (.tuple #[])∧Dk w B bd bl bf bc S (l++Txt.line [x]) w'∧Df B bd W w':=
 dSay_w h x [] [] rfl _ (strs_none W) (hZ _) (by show l.length+(x++[10]).length≤_;rw[gZ];simp;omega)
theorem dNo_any (h:Dk w B bd bl bf bc S l W)(c:Int)(hc:I64 c)(tb:aW w)(hlen:l.length+100≤140737488355328):
 Calls Tryz.prog 53 #[.pointer (some ⟨bd,0,none⟩),.int .i64 c] W fun e w'=>e=.returned (.tuple #[])∧Dk w B bd bl bf bc S (l++Txt.line [Dsk.wNo,Lib.itoa c]) w'∧Df B bd W w':=by
 have I:=ae (dC c hc.1 hc.2 W (tb.at h.lo.bel).tab);have IL:=ae (au hc);have H:=ae h;obtain⟨z,hz⟩:∃z:List UInt8,z=Lib.itoa c:=⟨_,rfl⟩;rw[←hz]at I IL⊢;clear h tb hc hz;unfold Dsk.wNo;go_enter Tryz.func53,Tryz.ntmps53;go_wp2_with fail;refine(ac I).mono ?_;rintro e w1 ⟨rfl,b1⟩;have H1:=ae (((ac H).call b1).call ((gX _ w1).alloc (gY _) (.cells #[.string ⟨z.toArray⟩] 9)));have B1:=ae (show Below W.heap.size W (w1.alloc (.cells #[.string ⟨z.toArray⟩] 9))from b1.alloc b1.size _);have D:=ae (dSay_w (ac H1) Dsk.wNo [z] [⟨z.toArray⟩] (by simp[ByteArray.toList_mk]) _ (strs_one w1 _) sp_ (by
  show l.length+([110,111]++(32::(z++[10]))).length≤_;have:=ac IL;simp;omega))
 unfold Dsk.wNo at D;clear b1 I;go_wp2_with fail;refine(ac D).mono ?_;rintro e w2 ⟨rfl,h2,f2⟩;have R:=ae (And.intro h2 ((Df.of_below (ac B1)).trans f2));clear h2 f2 D;go_wp2_with fail;go_end0;exact⟨rfl,(ac R).1,(ac R).2⟩
end
end
section
open Go.RowKit
open Idl (Stp chk stpA strs)
theorem Op9.ld_life {o:Oper}{ρ:Operand→Value}(x:Operand)(ho:o.op=.load 39 x){g o0:Nat}(hx:ρ x=.pointer (some ⟨g,o0,none⟩)){p:Option Addr}(w:World)(h:w.cell? ⟨g,o0,none⟩=some (.pointer p)):(execOp ρ o).run Tryz.prog w=.ok (.value (.pointer p)) w:=by
 unfold execOp;rw[ho];go_simp
theorem Op9.ld_int {o:Oper}{ρ:Operand→Value}(x:Operand)(ho:o.op=.load 3 x){g o0:Nat}(hx:ρ x=.pointer (some ⟨g,o0,none⟩)){p:Int}(w:World)(h:w.cell? ⟨g,o0,none⟩=some (.int .i64 p)):(execOp ρ o).run Tryz.prog w=.ok (.value (.int .i64 p)) w:=by
 unfold execOp;rw[ho];go_simp
theorem Op9.ld_str {o:Oper}{ρ:Operand→Value}(x:Operand)(ho:o.op=.load 9 x){g o0:Nat}(hx:ρ x=.pointer (some ⟨g,o0,none⟩)){p:ByteArray}(w:World)(h:w.cell? ⟨g,o0,none⟩=some (.string p)):(execOp ρ o).run Tryz.prog w=.ok (.value (.string p)) w:=by
 unfold execOp;rw[ho];go_simp
structure De (B bd bl bf bc bf' bc':Nat)(W W':World):Prop where
 size:W.heap.size≤W'.heap.size
 old:∀j,j<W.heap.size→j≠bd→j≠bl→j≠bf→j≠bc→(j<B∨NB W j)→W'.heap[j]? =W.heap[j]?
 new:(bf'=bf∧bc'=bc)∨(W.heap.size≤bf'∧W.heap.size≤bc')
section
variable {w W W' W2:World}{B bd bl bf bc:Nat}{S:Lv}{l:List UInt8}
theorem De.of_df (h:Df B bd W W'):De B bd bl bf bc bf bc W W':=⟨h.size,fun j hj h1 _ _ _ ho=>h.old j hj h1 ho,.inl ⟨rfl,rfl⟩⟩
theorem De.of_lc {bf' bc':Nat}(h:Lc bl bf bc bf' bc' W W'):De B bd bl bf bc bf' bc' W W':=⟨h.size,fun j hj _ h2 h3 h4 _=>h.old j hj h2 h3 h4,h.new⟩
theorem De.of_below (h:Below W.heap.size W W'):De B bd bl bf bc bf bc W W':=⟨h.size,fun j hj _ _ _ _ _=>h.block j hj,.inl ⟨rfl,rfl⟩⟩
theorem De.trans {bf1 bc1 bf2 bc2:Nat}(h:De B bd bl bf bc bf1 bc1 W W')(k:De B bd bl bf1 bc1 bf2 bc2 W' W2):De B bd bl bf bc bf2 bc2 W W2:=by
 refine⟨h_ h.size k.size,fun j hj h1 h2 h3 h4 ho=>?_,?_⟩
 ·have:=h.size;have e:=h.old j hj h1 h2 h3 h4 ho;rw[k.old j om_ h1 h2 (by rcases h.new with z|z<;>omega) (by rcases h.new with z|z<;>omega) (by rcases ho with z|z;exact .inl z;exact .inr (nb_same z e)),e]
 ·have:=h.size;rcases k.new with z|z
  ·rcases h.new with y|y
   ·exact .inl ⟨z.1.trans y.1,z.2.trans y.2⟩
   ·exact .inr ⟨om_,om_⟩
  ·exact .inr ⟨om_,om_⟩
theorem eV (S:Lv)(x:Stp):0≤S.code x∧S.code x≤7:=by
 have sp:∀d s,0≤Idl.spot d s∧Idl.spot d s≤7:=fun d s=>by
  unfold Idl.spot;repeat' split
  all_goals omega
 have h0:=sp x.dir x.name;have h1:=sp x.toDir x.to;have hc:0≤chk x∧chk x≤7:=by
  unfold chk;repeat' split
  all_goals omega
 have hs:0≤Img.scode S.now S.disk x∧Img.scode S.now S.disk x≤7:=by
  unfold Img.scode Img.scheck;repeat' split
  all_goals omega
 unfold Lv.code Img.lcode;repeat' split
 all_goals omega
theorem dStep_any (h:Dk w B bd bl bf bc S l W){n:Nat}(hO:S.Ok n)(hn:n≤1000000)(x:Stp)(h1:x.name.size≤maxLen)(h2:x.to.size≤maxLen)(h3:x.text.size≤maxLen)(tb:aW w)(hlen:l.length+100≤140737488355328):
 Calls Tryz.prog 29 #[.pointer (some ⟨bd,0,none⟩),.agg (stpA x)] W fun e w'=>e=.returned (.tuple #[])∧∃bf' bc',Dk w B bd bl bf' bc' (S.step x) (l++Dsk.ansStep S x) w'∧De B bd bl bf bc bf' bc' W w':=by
 obtain⟨X,hX⟩:∃X,X=(W.alloc (.cells (stpA x) 84)).drew:=⟨_,rfl⟩;have hB:Below W.heap.size W X:=by rw[hX];exact((gX _ W).alloc (gY _) _).drew
 have H1:=ae (h.call hB);have BB:=ae hB;have c1:=(h.call hB).lif;have r1:X.heap[W.heap.size]? =some (.cells (stpA x) 84):=by rw[hX];exact iV _ _
 have CF:=ae (lStep_any (ac H1).lo hO hn x h1 h2 h3);have CR:=ae (eV S x);have TB:=ae tb;have ON:=ae (fun(bf' bc':Nat) V (hv:Dk w B bd bl bf' bc' (S.step x) l V)=>dNo_any hv (S.code x) ⟨by have:=(ac CR).1;omega,by have:=(ac CR).2;omega⟩ (ac TB) hlen);have OW:=ae (fun(bf' bc':Nat) V (hv:Dk w B bd bl bf' bc' (S.step x) l V)=>cG hv Dsk.wOk (by show _+2+10≤_;omega));have E1:=ae (show S.code x≠0→Dsk.ansStep S x=Txt.line [Dsk.wNo,Lib.itoa (S.code x)]from fun z=>if_pos z);have E0:=ae (show S.code x=0→Dsk.ansStep S x=Txt.line [Dsk.wOk]from fun z=>if_neg (fun y=>y z));generalize Dsk.ansStep S x=ans at*;generalize S.code x=cd at*;generalize S.step x=T at*;clear h hB hO hn h1 h2 h3 tb hlen CR;unfold Dsk.wOk at OW E0;have HX:=ae hX;go_enter Tryz.func29,Tryz.ntmps29;go_upto_region 1 with fail
 refine iU (S:=fun V=>V.cell? ⟨bd,2,none⟩=some (.pointer (some ⟨bl,0,none⟩))∧V.heap[W.heap.size]? =some (.cells (stpA x) 84)) kr_ (by rw[←ac HX];exact⟨c1,r1⟩) (fun hS=>?_);refine tkQ 0 bd 0 rfl hS ?_;refine tkQ 1 bd 0 rfl hS ?_;refine tkQ 2 bd 2 rfl hS ?_;refine tkH 3 (.pointer (some ⟨bl,0,none⟩)) rfl (fun W h=>Op9.ld_life _ rfl kr_ W h.1) hS ?_;refine tkH 4 (.agg (stpA x)) rfl (fun W h=>aD 84 (.tmp 3) kr_ _ kr_ W 84 (stpA x) (0,0) _ h.2 aU rfl aJ) hS ?_;refine tkO 5 rfl (fun K hK=>?_);go_simp;rw[←ac HX];refine(ac CF).mono ?_;rintro e w2 ⟨rfl,bf',bc',hl,hc⟩;have H2:=ae ((ac H1).life hl hc);have D2:=ae (show De B bd bl bf bc bf' bc' W w2 from(De.of_below (ac BB)).trans (De.of_lc hc));have S2:w2.cell? ⟨bd,2,none⟩=some (.pointer (some ⟨bl,0,none⟩))∧w2.heap[W.heap.size]? =some (.cells (stpA x) 84):=by
  refine⟨(ac H2).lif,?_⟩;have k1:=(ac H1).lo;obtain⟨cs,ds,f⟩:=k1.fo.it;rw[hc.old _ (gW.1 r1).1 (aH r1 k1.root dc_) (aH r1 f.root dc_) (aH r1 f.row dc_)];exact r1
 clear hl hc CF;go_wp2_with fail;refine hK.out _ _ S2 (fun hS2=>?_);clear hK K;try simp only[Zsm]
 refine tkP 6 (.int .i64 cd) rfl hS2 ?_;refine tkD ?_;clear hS hS2 S2 c1 r1 hX HX;by_cases hz:cd=0
 case pos=>
  subst hz;have O:=ae (ac OW bf' bc' w2 (ac H2));rw[←ac E0 rfl]at O;clear OW ON E0 E1;go_wp2_with fail;refine(ac O).mono ?_;rintro e w3 ⟨rfl,h3,f3⟩;have R:=ae (And.intro h3 ((ac D2).trans (De.of_df f3)));clear h3 f3 O;go_wp2_with fail;go_end0;exact⟨rfl,bf',bc',ac R⟩
 case neg=>
  have q0:(cd !=0)=true:=by simpa using hz
  have O:=ae (ac ON bf' bc' w2 (ac H2));rw[←ac E1 hz]at O;clear OW ON E0 E1 hz;go_wp2_with fail;refine(ac O).mono ?_;rintro e w3 ⟨rfl,h3,f3⟩;have R:=ae (And.intro h3 ((ac D2).trans (De.of_df f3)));clear h3 f3 O;go_wp2_with fail;(try simp only[Exit.inBlock,Exit.then]);refine bodyPost_ret (results_none rfl _ _ _) rfl ?_;exact⟨rfl,bf',bc',ac R⟩
theorem eQ (S:Lv)(x:Stp):0≤Img.sreadC S.now x.dir x.name x.p∧Img.sreadC S.now x.dir x.name x.p≤7:=by
 have sp:∀d s,0≤Idl.spot d s∧Idl.spot d s≤7:=fun d s=>by
  unfold Idl.spot;repeat' split
  all_goals omega
 have hc:∀y,0≤chk y∧chk y≤7:=fun y=>by
  have h0:=sp y.dir y.name;have h1:=sp y.toDir y.to;unfold chk;repeat' split
  all_goals omega
 have h0:=hc (Idl.cut x.dir x.name x.p);unfold Img.sreadC Img.scheck;repeat' split
 all_goals omega
theorem eP (S:Lv)(x:Stp)(hT:∀x,x<9→(S.now.text x).size≤8)(hm:S.now.check=0):(Img.sreadT S.now x.dir x.name x.p).size≤8:=by
 unfold Img.sreadT;split
 ·exact hZ _
 ·rename_i hc
  split
  ·exact hZ _
  ·rename_i hp
   refine hT _ ?_;have hc0:Img.scheck S.now (Idl.cut x.dir x.name x.p)=0:=by unfold Img.sreadC at hc;simpa using hc
   have ck:chk (Idl.cut x.dir x.name x.p)=0:=by
    unfold Img.scheck at hc0;split at hc0
    ·contradiction
    ·rename_i z;simpa using z
   have p2:0≤x.p∧x.p<2:=by
    unfold chk Idl.cut at ck;simp only at ck;repeat' split at ck
    all_goals first|omega|(exfalso;simp_all;done)|simp_all
   have hi:0≤Img.inoOf S.now x.dir x.name:=by
    unfold Img.scheck at hc0;rw[if_neg (by rw[ck];simp),if_neg (by rw[show(Idl.cut x.dir x.name x.p).kind=6 from rfl];decide)]at hc0;by_cases c:Img.inoOf S.now x.dir x.name<0
    ·rw[if_pos (show Img.inoOf S.now (Idl.cut x.dir x.name x.p).dir (Idl.cut x.dir x.name x.p).name<0 from c)]at hc0;omega
    ·omega
   obtain⟨_,n,th⟩:=Img.there hm hi;unfold Img.spart at hp⊢;rw[th.of,g_]at hp⊢;rcases Img.checkPart_iff.1 ((Img.inode_parts_ok hm th.n8 th.live).2.2 x.p.toNat om_)with y|y
   ·omega
   ·have:=y.1;unfold Img.isD at this;simp only[ik,decide_eq_true_eq]at this;omega
theorem dRead_any (h:Dk w B bd bl bf bc S l W){n:Nat}(hO:S.Ok n)(hT:∀x,x<9→(S.now.text x).size≤8)(x:Stp)(h1:x.name.size≤maxLen)(tb:aW w)(hlen:l.length+100≤140737488355328):
 Calls Tryz.prog 54 #[.pointer (some ⟨bd,0,none⟩),.agg (stpA x)] W fun e w'=>e=.returned (.tuple #[])∧Dk w B bd bl bf bc S (l++Dsk.ansRead S x) w'∧De B bd bl bf bc bf bc W w':=by
 obtain⟨X,hX⟩:∃X,X=(W.alloc (.cells (stpA x) 84)).drew:=⟨_,rfl⟩;have hB:Below W.heap.size W X:=by rw[hX];exact((gX _ W).alloc (gY _) _).drew
 have H1:=ae (h.call hB);have BB:=ae hB;have c1:=(h.call hB).lif;have c2:=(h.call hB).lo.ptr;have r1:X.heap[W.heap.size]? =some (.cells (stpA x) 84):=by rw[hX];exact iV _ _
 have e1:X.cell? ⟨W.heap.size,1,none⟩=some (.int .i64 x.dir):=by rw[iW _ _ _ _ _ _ r1];rfl
 have e4:X.cell? ⟨W.heap.size,4,none⟩=some (.string x.name):=by rw[iW _ _ _ _ _ _ r1];rfl
 have e3:X.cell? ⟨W.heap.size,3,none⟩=some (.int .i64 x.p):=by rw[iW _ _ _ _ _ _ r1];rfl
 have CF:=ae ((ac H1).lo.fo.read hO.hold.good.ex.ok x.dir x.name h1 x.p);have CR:=ae (eQ S x);have TS:=ae (eP S x hT hO.hold.good.ex.ok);have TB:=ae tb;have ON:=ae (fun V (hv:Dk w B bd bl bf bc S l V)=>dNo_any hv (Img.sreadC S.now x.dir x.name x.p) ⟨by have:=(ac CR).1;omega,by have:=(ac CR).2;omega⟩ (ac TB) hlen);have OW:=ae (fun V (hv:Dk w B bd bl bf bc S l V)=>cG hv Dsk.wNone (by show _+4+10≤_;omega));have OS:=ae (fun V=>Show_any (Img.sreadT S.now x.dir x.name x.p) (by have:=ac TS;omega) V);have OT:=ae (fun V (hv:Dk w B bd bl bf bc S l V)=>cG hv (Txt.shows (Img.sreadT S.now x.dir x.name x.p).toList) (by
  have:=(Txt.showR_len (Img.sreadT S.now x.dir x.name x.p).toList).2;have:=ac TS;rw[ap]at*;show l.length+(61::Txt.showR (Img.sreadT S.now x.dir x.name x.p).toList).length+10≤_;rw[ig];omega))
 have E1:=ae (show Img.sreadC S.now x.dir x.name x.p≠0→Dsk.ansRead S x=Txt.line [Dsk.wNo,Lib.itoa (Img.sreadC S.now x.dir x.name x.p)]from fun z=>if_pos z);have E2:=ae (show Img.sreadC S.now x.dir x.name x.p=0→Img.sreadB S.now x.dir x.name x.p=false→Dsk.ansRead S x=Txt.line [Dsk.wNone]from fun z y=>by unfold Dsk.ansRead;rw[if_neg (fun q=>q z),if_pos y]);have E3:=ae (show Img.sreadC S.now x.dir x.name x.p=0→Img.sreadB S.now x.dir x.name x.p=true→Dsk.ansRead S x=Txt.line [Txt.shows (Img.sreadT S.now x.dir x.name x.p).toList]from fun z y=>by unfold Dsk.ansRead;rw[if_neg (fun q=>q z),if_neg (by rw[y];simp)]);generalize Dsk.ansRead S x=ans at*;generalize Txt.shows (Img.sreadT S.now x.dir x.name x.p).toList=shw at*;generalize Img.sreadC S.now x.dir x.name x.p=cd at*;generalize Img.sreadT S.now x.dir x.name x.p=tx at*;generalize Img.sreadB S.now x.dir x.name x.p=bo at*;clear h hB hO h1 tb hlen CR TS hT;unfold Dsk.wNone at OW E2;have HX:=ae hX;go_enter Tryz.func54,Tryz.ntmps54;go_upto_region 1 with fail
 refine iU (S:=fun V=>Below X.heap.size X V) kr_ (by rw[←ac HX];exact gX _ _) (fun hS=>?_);refine tkQ 0 bd 0 rfl hS ?_;refine tkQ 1 bd 0 rfl hS ?_;refine tkQ 2 bd 2 rfl hS ?_;refine tkH 3 (.pointer (some ⟨bl,0,none⟩)) rfl (fun W h=>Op9.ld_life _ rfl kr_ W (aq h c1)) hS ?_;refine tkQ 4 bl 0 rfl hS ?_;refine tkQ 5 bl 0 rfl hS ?_;refine tkH 6 (.pointer (some ⟨bf,0,none⟩)) rfl (fun W h=>Op1.ld_files _ rfl kr_ W (aq h c2)) hS ?_;refine tkQ 7 W.heap.size 1 rfl hS ?_;refine tkH 8 (.int .i64 x.dir) rfl (fun W h=>Op9.ld_int _ rfl kr_ W (aq h e1)) hS ?_;refine tkQ 9 W.heap.size 4 rfl hS ?_;refine tkH 10 (.string x.name) rfl (fun W h=>Op9.ld_str _ rfl kr_ W (aq h e4)) hS ?_;refine tkQ 11 W.heap.size 3 rfl hS ?_;refine tkH 12 (.int .i64 x.p) rfl (fun W h=>Op9.ld_int _ rfl kr_ W (aq h e3)) hS ?_;refine tkO 13 rfl (fun K hK=>?_);go_simp;rw[←ac HX];refine(ac CF).mono ?_;rintro e w2 ⟨rfl,_,b2⟩;have H2:=ae ((ac H1).call b2);have D2:=ae (show De B bd bl bf bc bf bc W w2 from De.of_below ((ac BB).trans (b2.mono (ac BB).size)));have S2:Below X.heap.size X w2:=b2;clear b2 CF;go_wp2_with fail;refine hK.out _ _ S2 (fun hS2=>?_);clear hK K;try simp only[Zsm]
 refine tkP 14 (.tuple #[.string tx,.bool bo,.int .i64 cd]) rfl hS2 ?_;refine tkP 15 (.string tx) rfl hS2 ?_;refine tkP 16 (.bool bo) rfl hS2 ?_;refine tkP 17 (.int .i64 cd) rfl hS2 ?_;refine tkP 18 (.string tx) rfl hS2 ?_;refine tkP 19 (.bool bo) rfl hS2 ?_;refine tkP 20 (.int .i64 cd) rfl hS2 ?_;refine tkD ?_;clear hS hS2 S2 c1 c2 r1 e1 e3 e4 hX HX;by_cases hz:cd=0
 case neg=>
  have q0:(cd !=0)=true:=by simpa using hz
  have O:=ae (ac ON w2 (ac H2));rw[←ac E1 hz]at O;clear OW ON OS OT E1 E2 E3 hz;go_wp2_with fail;refine(ac O).mono ?_;rintro e w3 ⟨rfl,h3,f3⟩;have R:=ae (And.intro h3 ((ac D2).trans (De.of_df f3)));clear h3 f3 O;go_wp2_with fail;go_end0;exact⟨rfl,ac R⟩
 subst hz;cases bo
 case false=>
  have O:=ae (ac OW w2 (ac H2));rw[←ac E2 rfl rfl]at O;clear OW ON OS OT E1 E2 E3;go_wp2_with fail;refine(ac O).mono ?_;rintro e w3 ⟨rfl,h3,f3⟩;have R:=ae (And.intro h3 ((ac D2).trans (De.of_df f3)));clear h3 f3 O;go_wp2_with fail;go_end0;exact⟨rfl,ac R⟩
 case true=>
  have E4:=ae (ac E3 rfl rfl);clear E1 E2 E3 ON OW;go_wp2_with fail;refine(ac OS w2).mono ?_;rintro e w3 ⟨rfl,b3⟩;have D3:=ae ((ac D2).trans (De.of_below b3));have O:=ae (ac OT w3 ((ac H2).call b3));rw[←ac E4]at O;clear OS OT E4 b3;go_wp2_with fail;refine(ac O).mono ?_;rintro e w4 ⟨rfl,h3,f3⟩;have R:=ae (And.intro h3 ((ac D3).trans (De.of_df f3)));clear h3 f3 O;go_wp2_with fail;go_end0;exact⟨rfl,ac R⟩
end
end
section
open Go.RowKit
open Idl (Stp chk stpA)
namespace Sft
theorem snames_at {m:Img}(hm:m.check=0){d:Nat}(hd:d<3){nm:ByteArray}(h:nm∈Img.snames m (d:Int)):∃s,s<4∧m.named d s=true∧m.name d s=nm:=by
 unfold Img.snames at h;rw[if_pos om_,g_]at h;exact Img.rawN_mem.1 ((d_ (Img.rawN_nodup hm hd (gY 4)) nm).1 h)
theorem snames_len (m:Img)(hm:m.check=0){d:Nat}(hd:d<3):(Img.snames m (d:Int)).length≤4:=by
 unfold Img.snames;rw[if_pos om_,g_,sortN_len (Img.rawN_nodup hm hd (gY 4))];exact Img.rawN_len m d 4
theorem snames_find {m:Img}(hm:m.check=0){d:Nat}(hd:d<3){nm:ByteArray}(h:nm∈Img.snames m (d:Int)):(∃s:Nat,m.findAt (d:Int) nm.toList=(s:Int))∧Img.isNmB nm.toList=true:=by
 obtain⟨s,hs,hn,rfl⟩:=snames_at hm hd h;have ok:=(Img.slot_ok hn).1 ((Img.well_iff.1 hm).slot d s hd hs);refine⟨⟨s,?_⟩,ok.nm⟩;exact Img.find_at hm (d:=(d:Int)) om_ hs (Img.nm_ne ok.nm) (by rw[g_])
end Sft
end
section
open Go.RowKit
open Idl (Stp chk stpA strs)
theorem stp_set1 (x:Stp)(v:Int):(stpA x).setIfInBounds 1 (.int .i64 v)=stpA ⟨x.kind,v,x.toDir,x.p,x.name,x.to,x.text⟩:=rfl
theorem stp_set2 (x:Stp)(v:Int):(stpA x).setIfInBounds 2 (.int .i64 v)=stpA ⟨x.kind,x.dir,v,x.p,x.name,x.to,x.text⟩:=rfl
theorem stp_set3 (x:Stp)(v:Int):(stpA x).setIfInBounds 3 (.int .i64 v)=stpA ⟨x.kind,x.dir,x.toDir,v,x.name,x.to,x.text⟩:=rfl
theorem stp_set4 (x:Stp)(v:ByteArray):(stpA x).setIfInBounds 4 (.string v)=stpA ⟨x.kind,x.dir,x.toDir,x.p,v,x.to,x.text⟩:=rfl
theorem stp_set5 (x:Stp)(v:ByteArray):(stpA x).setIfInBounds 5 (.string v)=stpA ⟨x.kind,x.dir,x.toDir,x.p,x.name,v,x.text⟩:=rfl
theorem stp_set6 (x:Stp)(v:ByteArray):(stpA x).setIfInBounds 6 (.string v)=stpA ⟨x.kind,x.dir,x.toDir,x.p,x.name,x.to,v⟩:=rfl
def dZ (o:Option Stp)(g:Nat)(e:Ending)(W:World):Prop:=
 ∃y,W.heap[g]? =some (.cells (stpA y) 84)∧((o=some y∧e=.returned (.bool true))∨(o=none∧e=.returned (.bool false)))
theorem chg_set {W:World}{g o:Nat}{v:Value}:Idl.Chg (fun i=>i=g) W (W.setCell ⟨g,o,none⟩ v):=⟨rfl,rfl,rfl,by simp[World.setCell],fun k _ hk=>iP _ _ _ _ (fun e=>hk e)⟩
theorem cH {W V:World}{g o:Nat}{x:Stp}(hb:W.heap[g]? =some (.cells (stpA x) 84))(b:Below W.heap.size W V)(v:Value)(y:Stp)(hy:(stpA x).setIfInBounds o v=stpA y):
 (V.setCell ⟨g,o,none⟩ v).heap[g]? =some (.cells (stpA y) 84)∧Idl.Chg (fun i=>i=g) W (V.setCell ⟨g,o,none⟩ v)∧V.frozen? ⟨g,o,none⟩=false∧V.heap[g]? =some (.cells (stpA x) 84):=by
 have h1:V.heap[g]? =some (.cells (stpA x) 84):=by rw[b.block _ (gW.1 hb).1];exact hb
 exact⟨by rw[dT h1,hy],(Idl.Chg.of_below b).trans chg_set (fun i hi=>.inl hi),Lib.frozen_of_heap h1 _,h1⟩
theorem fill_d (g:Nat)(x:Stp)(s:ByteArray)(hs:s.size≤100000){W:World}(tb:aW W)(hb:W.heap[g]? =some (.cells (stpA x) 84)):
 Calls Tryz.prog 76 #[.pointer (some ⟨g,0,none⟩),.int .u8 68,.string s] W fun e w'=>dZ (Dsk.fill x 68 s) g e w'∧Idl.Chg (fun i=>i=g) W w':=by
 have D:=ae (dH s hs W tb);have BX:=ae (fun V (b:Below W.heap.size W V)=>cH hb b (.int .i64 (Dsk.num s)) ⟨x.kind,Dsk.num s,x.toDir,x.p,x.name,x.to,x.text⟩ (stp_set1 x (Dsk.num s)));have E:=ae (show Dsk.fill x 68 s=some ⟨x.kind,Dsk.num s,x.toDir,x.p,x.name,x.to,x.text⟩from rfl);clear hb tb;go_enter Tryz.func76,Tryz.ntmps76;go_wp2_with fail;refine(ac D).mono ?_;rintro e w1 ⟨rfl,b1⟩;have R:=ae (ac BX w1 b1);have fz:=(ac R).2.2.1;obtain⟨cv,hcv⟩:∃v,w1.cell? ⟨g,1,none⟩=some v:=⟨_,by rw[iW _ _ _ _ _ _ (ac R).2.2.2];rfl⟩;clear D BX b1;go_wp2_with fail;go_ret;exact⟨⟨_,(ac R).1,.inl ⟨ac E,rfl⟩⟩,(ac R).2.1⟩
theorem fill_n (g:Nat)(x:Stp)(s:ByteArray)(hs:s.size≤100000){W:World}(tb:aW W)(hb:W.heap[g]? =some (.cells (stpA x) 84)):
 Calls Tryz.prog 76 #[.pointer (some ⟨g,0,none⟩),.int .u8 78,.string s] W fun e w'=>dZ (Dsk.fill x 78 s) g e w'∧Idl.Chg (fun i=>i=g) W w':=by
 have D:=ae (clone_any s hs W);have BX:=ae (fun V (b:Below W.heap.size W V)=>cH hb b (.string s) ⟨x.kind,x.dir,x.toDir,x.p,s,x.to,x.text⟩ (stp_set4 x s));have E:=ae (show Dsk.fill x 78 s=some ⟨x.kind,x.dir,x.toDir,x.p,s,x.to,x.text⟩from rfl);clear hb tb;go_enter Tryz.func76,Tryz.ntmps76;go_wp2_with fail;refine(ac D).mono ?_;rintro e w1 ⟨rfl,b1⟩;have R:=ae (ac BX w1 b1);have fz:=(ac R).2.2.1;obtain⟨cv,hcv⟩:∃v,w1.cell? ⟨g,4,none⟩=some v:=⟨_,by rw[iW _ _ _ _ _ _ (ac R).2.2.2];rfl⟩;clear D BX b1;go_wp2_with fail;go_ret;exact⟨⟨_,(ac R).1,.inl ⟨ac E,rfl⟩⟩,(ac R).2.1⟩
theorem fill_e (g:Nat)(x:Stp)(s:ByteArray)(hs:s.size≤100000){W:World}(tb:aW W)(hb:W.heap[g]? =some (.cells (stpA x) 84)):
 Calls Tryz.prog 76 #[.pointer (some ⟨g,0,none⟩),.int .u8 69,.string s] W fun e w'=>dZ (Dsk.fill x 69 s) g e w'∧Idl.Chg (fun i=>i=g) W w':=by
 have D:=ae (dH s hs W tb);have BX:=ae (fun V (b:Below W.heap.size W V)=>cH hb b (.int .i64 (Dsk.num s)) ⟨x.kind,x.dir,Dsk.num s,x.p,x.name,x.to,x.text⟩ (stp_set2 x (Dsk.num s)));have E:=ae (show Dsk.fill x 69 s=some ⟨x.kind,x.dir,Dsk.num s,x.p,x.name,x.to,x.text⟩from rfl);clear hb tb;go_enter Tryz.func76,Tryz.ntmps76;go_wp2_with fail;refine(ac D).mono ?_;rintro e w1 ⟨rfl,b1⟩;have R:=ae (ac BX w1 b1);have fz:=(ac R).2.2.1;obtain⟨cv,hcv⟩:∃v,w1.cell? ⟨g,2,none⟩=some v:=⟨_,by rw[iW _ _ _ _ _ _ (ac R).2.2.2];rfl⟩;clear D BX b1;go_wp2_with fail;go_ret;exact⟨⟨_,(ac R).1,.inl ⟨ac E,rfl⟩⟩,(ac R).2.1⟩
theorem fill_m (g:Nat)(x:Stp)(s:ByteArray)(hs:s.size≤100000){W:World}(tb:aW W)(hb:W.heap[g]? =some (.cells (stpA x) 84)):
 Calls Tryz.prog 76 #[.pointer (some ⟨g,0,none⟩),.int .u8 77,.string s] W fun e w'=>dZ (Dsk.fill x 77 s) g e w'∧Idl.Chg (fun i=>i=g) W w':=by
 have D:=ae (clone_any s hs W);have BX:=ae (fun V (b:Below W.heap.size W V)=>cH hb b (.string s) ⟨x.kind,x.dir,x.toDir,x.p,x.name,s,x.text⟩ (stp_set5 x s));have E:=ae (show Dsk.fill x 77 s=some ⟨x.kind,x.dir,x.toDir,x.p,x.name,s,x.text⟩from rfl);clear hb tb;go_enter Tryz.func76,Tryz.ntmps76;go_wp2_with fail;refine(ac D).mono ?_;rintro e w1 ⟨rfl,b1⟩;have R:=ae (ac BX w1 b1);have fz:=(ac R).2.2.1;obtain⟨cv,hcv⟩:∃v,w1.cell? ⟨g,5,none⟩=some v:=⟨_,by rw[iW _ _ _ _ _ _ (ac R).2.2.2];rfl⟩;clear D BX b1;go_wp2_with fail;go_ret;exact⟨⟨_,(ac R).1,.inl ⟨ac E,rfl⟩⟩,(ac R).2.1⟩
theorem fill_p (g:Nat)(x:Stp)(s:ByteArray)(hs:s.size≤100000){W:World}(tb:aW W)(hb:W.heap[g]? =some (.cells (stpA x) 84)):
 Calls Tryz.prog 76 #[.pointer (some ⟨g,0,none⟩),.int .u8 80,.string s] W fun e w'=>dZ (Dsk.fill x 80 s) g e w'∧Idl.Chg (fun i=>i=g) W w':=by
 have D:=ae (dH s hs W tb);have BX:=ae (fun V (b:Below W.heap.size W V)=>cH hb b (.int .i64 (Dsk.num s)) ⟨x.kind,x.dir,x.toDir,Dsk.num s,x.name,x.to,x.text⟩ (stp_set3 x (Dsk.num s)));have E:=ae (show Dsk.fill x 80 s=some ⟨x.kind,x.dir,x.toDir,Dsk.num s,x.name,x.to,x.text⟩from rfl);clear hb tb;go_enter Tryz.func76,Tryz.ntmps76;go_wp2_with fail;refine(ac D).mono ?_;rintro e w1 ⟨rfl,b1⟩;have R:=ae (ac BX w1 b1);have fz:=(ac R).2.2.1;obtain⟨cv,hcv⟩:∃v,w1.cell? ⟨g,3,none⟩=some v:=⟨_,by rw[iW _ _ _ _ _ _ (ac R).2.2.2];rfl⟩;clear D BX b1;go_wp2_with fail;go_ret;exact⟨⟨_,(ac R).1,.inl ⟨ac E,rfl⟩⟩,(ac R).2.1⟩
theorem fill_b (g:Nat)(x:Stp)(s:ByteArray)(hs:s.size≤100000){W:World}(tb:aW W)(hb:W.heap[g]? =some (.cells (stpA x) 84)):
 Calls Tryz.prog 76 #[.pointer (some ⟨g,0,none⟩),.int .u8 66,.string s] W fun e w'=>dZ (Dsk.fill x 66 s) g e w'∧Idl.Chg (fun i=>i=g) W w':=by
 have D:=ae (dH s hs W tb);have BX:=ae (fun V (b:Below W.heap.size W V)=>cH hb b (.int .i64 (Dsk.num s)) ⟨x.kind,x.dir,x.toDir,Dsk.num s,x.name,x.to,x.text⟩ (stp_set3 x (Dsk.num s)));have E:=ae (show Dsk.fill x 66 s=some ⟨x.kind,x.dir,x.toDir,Dsk.num s,x.name,x.to,x.text⟩from rfl);clear hb tb;go_enter Tryz.func76,Tryz.ntmps76;go_wp2_with fail;refine(ac D).mono ?_;rintro e w1 ⟨rfl,b1⟩;have R:=ae (ac BX w1 b1);have fz:=(ac R).2.2.1;obtain⟨cv,hcv⟩:∃v,w1.cell? ⟨g,3,none⟩=some v:=⟨_,by rw[iW _ _ _ _ _ _ (ac R).2.2.2];rfl⟩;clear D BX b1;go_wp2_with fail;go_ret;exact⟨⟨_,(ac R).1,.inl ⟨ac E,rfl⟩⟩,(ac R).2.1⟩
theorem fill_t (g:Nat)(x:Stp)(s:ByteArray)(hs:s.size≤100000){W:World}(tb:aW W)(hb:W.heap[g]? =some (.cells (stpA x) 84)):
 Calls Tryz.prog 76 #[.pointer (some ⟨g,0,none⟩),.int .u8 84,.string s] W fun e w'=>dZ (Dsk.fill x 84 s) g e w'∧Idl.Chg (fun i=>i=g) W w':=by
 have D:=ae (Mean_any s om_ W);have BX:=ae (fun V (b:Below W.heap.size W V) u=>cH hb b (.string u) ⟨x.kind,x.dir,x.toDir,x.p,x.name,x.to,u⟩ (stp_set6 x u));have E:=ae (show Dsk.fill x 84 s=(Dsk.mean s).map fun t=>⟨x.kind,x.dir,x.toDir,x.p,x.name,x.to,t⟩from rfl);clear hb tb;go_enter Tryz.func76,Tryz.ntmps76;go_wp2_with fail;refine(ac D).mono ?_;rintro e w1 ⟨hm,b1⟩;clear D;rcases hm with⟨u,hu,rfl⟩|⟨hu,rfl⟩
 ·have E2:=ae (show Dsk.fill x 84 s=some ⟨x.kind,x.dir,x.toDir,x.p,x.name,x.to,⟨u.toArray⟩⟩by
   rw[ac E];unfold Dsk.mean;rw[(Dsk.meanL_iff _ _).2 hu];rfl)
  have R:=ae (ac BX w1 b1 ⟨u.toArray⟩);have fz:=(ac R).2.2.1;obtain⟨cv,hcv⟩:∃v,w1.cell? ⟨g,6,none⟩=some v:=⟨_,by rw[iW _ _ _ _ _ _ (ac R).2.2.2];rfl⟩;clear BX b1 hu E;go_wp2_with fail;go_ret;exact⟨⟨_,(ac R).1,.inl ⟨ac E2,rfl⟩⟩,(ac R).2.1⟩
 ·have E2:=ae (show Dsk.fill x 84 s=none by
   rw[ac E];unfold Dsk.mean;cases hc:Dsk.meanL s.toList with
   |none=>rfl
   |some t=>exact absurd ((Dsk.meanL_iff _ _).1 hc) (hu t))
  have R:=ae (ac BX w1 b1 ⟨#[]⟩);have fz:=(ac R).2.2.1;obtain⟨cv,hcv⟩:∃v,w1.cell? ⟨g,6,none⟩=some v:=⟨_,by rw[iW _ _ _ _ _ _ (ac R).2.2.2];rfl⟩;clear BX b1 hu E;go_wp2_with fail;go_ret;exact⟨⟨_,(ac R).1,.inr ⟨ac E2,rfl⟩⟩,(ac R).2.1⟩
def letter (c:UInt8):Prop:=c=68∨c=78∨c=69∨c=77∨c=80∨c=66∨c=84
theorem fill_any (g:Nat)(x:Stp)(c:UInt8)(hc:letter c)(s:ByteArray)(hs:s.size≤100000){W:World}(tb:aW W)(hb:W.heap[g]? =some (.cells (stpA x) 84)):
 Calls Tryz.prog 76 #[.pointer (some ⟨g,0,none⟩),.int .u8 (c.toNat:Int),.string s] W fun e w'=>dZ (Dsk.fill x c s) g e w'∧Idl.Chg (fun i=>i=g) W w':=by
 rcases hc with rfl|rfl|rfl|rfl|rfl|rfl|rfl
 ·exact fill_d g x s hs tb hb
 ·exact fill_n g x s hs tb hb
 ·exact fill_e g x s hs tb hb
 ·exact fill_m g x s hs tb hb
 ·exact fill_p g x s hs tb hb
 ·exact fill_b g x s hs tb hb
 ·exact fill_t g x s hs tb hb
def MeantIs (o:Option Stp)(e:Ending):Prop:=(∃y,o=some y∧e=.returned (.tuple #[.agg (stpA y),.bool true]))∨(o=none∧e=.returned (.tuple #[.agg (stpA (Dsk.blank 0)),.bool false]))
end
section
open Go.RowKit
open Idl (Stp chk stpA strs)
def dm (f:Dsk.Frm):Array Value:= #[.string f.word,.string f.places,.int .i64 f.kind]
theorem c_ (a:Int):stpA (Dsk.blank a)= #[.int .i64 a,.int .i64 0,.int .i64 0,.int .i64 0,.string ⟨#[]⟩,.string ⟨#[]⟩,.string ⟨#[]⟩]:=rfl
theorem cS (x:Stp):(stpA x).all (·.oneCell')=true:=by obtain⟨a,b,c,d,e,f,g⟩:=x;kernel_rfl
structure Fbq (W V:World)(f:Dsk.Frm)(y:Stp):Prop where
 bel:Below W.heap.size W V
 frm:V.heap[W.heap.size]? =some (.cells (dm f) 118)
 res:V.heap[W.heap.size+1]? =some (.cells (stpA (Dsk.blank 0)) 84)
 box:V.heap[W.heap.size+2]? =some (.cells (stpA y) 84)
theorem Fbq.start (W:World)(f:Dsk.Frm):Fbq W (((W.alloc (.cells (dm f) 118)).alloc (.cells (stpA (Dsk.blank 0)) 84)).alloc (.cells (stpA (Dsk.blank f.kind)) 84)) f (Dsk.blank f.kind):=by
 have h0:=iV W (.cells (dm f) 118);have s0:(W.alloc (.cells (dm f) 118)).heap.size=W.heap.size+1:=sp_;have h1:=iV (W.alloc (.cells (dm f) 118)) (.cells (stpA (Dsk.blank 0)) 84);have s1:((W.alloc (.cells (dm f) 118)).alloc (.cells (stpA (Dsk.blank 0)) 84)).heap.size=W.heap.size+2:=sp_;have h2:=iV ((W.alloc (.cells (dm f) 118)).alloc (.cells (stpA (Dsk.blank 0)) 84)) (.cells (stpA (Dsk.blank f.kind)) 84);rw[s0]at h1;rw[s1]at h2;refine⟨(((gX _ W).alloc (gY _) _).alloc (by rw[s0];omega) _).alloc (by rw[s1];omega) _,?_,?_,h2⟩
 ·rw[im _ _ _ (by rw[s1];omega),im _ _ _ (by rw[s0];omega)];exact h0
 ·rw[im _ _ _ (by rw[s1];omega)];exact h1
theorem Fbq.next {W V V':World}{f:Dsk.Frm}{y z:Stp}(h:Fbq W V f y)(c:Idl.Chg (fun i=>i=W.heap.size+2) V V')(hz:V'.heap[W.heap.size+2]? =some (.cells (stpA z) 84)):Fbq W V' f z:=by
 have l1:=(gW.1 h.frm).1;have l2:=(gW.1 h.res).1;exact⟨h.bel.trans (c.below h.bel.size (fun k hk=>by omega)),by rw[c.block _ l1 om_];exact h.frm,by rw[c.block _ l2 om_];exact h.res,hz⟩
theorem fills_step (y:Stp)(P:List UInt8)(ws:List ByteArray)(i:Nat)(c:UInt8)(s:ByteArray)(hc:P[i]? =some c)(hs:ws[i]? =some s):Dsk.fills y (P.drop i) (ws.drop i)=(Dsk.fill y c s).bind fun z=>Dsk.fills z (P.drop (i+1)) (ws.drop (i+1)):=by
 obtain⟨h1,e1⟩:=ip.1 hc;obtain⟨h2,e2⟩:=ip.1 hs;rw[List.drop_eq_getElem_cons h1,List.drop_eq_getElem_cons h2,e1,e2];rfl
theorem fills_end (y:Stp)(P:List UInt8)(ws:List ByteArray):Dsk.fills y P (ws.drop ws.length)=some y:=by
 rw[List.drop_length];cases P<;>rfl
def Wds (W:World)(v:Value)(ws:List ByteArray):Prop:=∃a c,v=.slice a ws.length c∧∀(i:Nat) x,ws[i]? =some x→∃g o,a=some ⟨g,o,none⟩∧W.cell? ⟨g,o+i,none⟩=some (.string x)
theorem Wds.below {W V:World}{v:Value}{ws:List ByteArray}(h:Wds W v ws)(hb:Below W.heap.size W V):Wds V v ws:=by
 obtain⟨a,c,e,h⟩:=h;exact⟨a,c,e,fun i x hx=>by obtain⟨g,o,e1,e2⟩:=h i x hx;exact⟨g,o,e1,aq hb e2⟩⟩
theorem filled_any (f:Dsk.Frm)(hf:∀c∈f.places.toList,letter c)(ws:List ByteArray)(hw:∀s∈ws,s.size≤100000)(hn:ws.length=f.places.size)(hN:ws.length≤1000)(v:Value)(W:World)(hv:Wds W v ws)(tb:aW W):
 Calls Tryz.prog 49 #[.agg (dm f),v] W fun e w'=>MeantIs (Dsk.fills (Dsk.blank f.kind) f.places.toList ws) e∧Below W.heap.size W w':=by
 obtain⟨a,cp,rfl,hc⟩:=hv;have F0:=ae (Fbq.start W f);have HC:=ae hc;have HF:=ae hf;have HW:=ae hw;have TB:=ae tb;have HNN:=ae hn;have k0:((W.alloc (.cells (dm f) 118)).alloc (.cells (stpA (Dsk.blank 0)) 84)).cell? ⟨W.heap.size,2,none⟩=some (.int .i64 f.kind):=by
  have h0:=iV W (.cells (dm f) 118);have h1:((W.alloc (.cells (dm f) 118)).alloc (.cells (stpA (Dsk.blank 0)) 84)).heap[W.heap.size]? =some (.cells (dm f) 118):=by rw[im _ _ _ sp_];exact h0
  rw[iW _ _ _ _ _ _ h1];rfl
 clear hc hf hw tb hn;rw[c_]at F0;rw[c_]at F0;rw[c_]at k0;go_enter Tryz.func49,Tryz.ntmps49;go_wp2_with fail;generalize hV:World.alloc _ _=V0 at F0⊢;clear hV k0;go_loopw [14] (fun s wr=>∃(i:Nat)(y:Stp),i≤ws.length∧s=.int .i64 i∧Hid (Fbq W wr f y)∧Hid (Dsk.fills (Dsk.blank f.kind) f.places.toList ws=Dsk.fills y (f.places.toList.drop i) (ws.drop i))) (fun s _=>ws.length-(intOf s).toNat)
 case atStart=>exact⟨0,_,hZ _,rfl,F0,ae rfl⟩
 case round=>
  clear F0;obtain⟨i,y,hi,rfl,F1,E1⟩:=hrel;by_cases hlt:i<ws.length
  case pos=>
   have hz:(i:Int)<(ws.length:Int):=om_;have hip:i<f.places.size:=by have:=ac HNN;omega
   have hzp:(i:Int)<(f.places.size:Int):=om_;obtain⟨s,hs⟩:∃s,ws[i]? =some s:=⟨_,iB hlt⟩;obtain⟨g,o,rfl,hcl⟩:=ac HC i s hs;have hcW:wr.cell? ⟨g,o+i,none⟩=some (.string s):=aq (ac F1).bel hcl;have hpl:wr.cell? ⟨W.heap.size,1,none⟩=some (.string f.places):=by rw[iW _ _ _ _ _ _ (ac F1).frm];rfl
   have hcp:f.places.toList[i]? =some (f.places[i]):=by
    rw[ByteArray.toList_eq];exact iB (show i<f.places.data.toList.length from hip)
   have E2:=ae (fills_step y f.places.toList ws i _ s hcp hs);have D:=ae (fill_any (W.heap.size+2) y (f.places[i]) (ac HF _ (List.mem_of_getElem? hcp)) s (ac HW s (List.mem_of_getElem? hs)) ((ac TB).at (ac F1).bel) (ac F1).box);clear hcl hcp;go_wp2_with fail;refine(ac D).mono ?_;rintro e w2 ⟨⟨z,hz2,hor⟩,c2⟩;have F2:=ae ((ac F1).next c2 hz2);rcases hor with⟨ho,rfl⟩|⟨ho,rfl⟩
   ·have E3:=ae (show Dsk.fills (Dsk.blank f.kind) f.places.toList ws=Dsk.fills z (f.places.toList.drop (i+1)) (ws.drop (i+1))by rw[ac E1,ac E2,ho];rfl);clear c2 hz2 ho D E2 E1 F1 hcW hpl;go_wp2_with fail;go_roundw
    case rel=>exact⟨i+1,z,om_,by go_num,F2,E3⟩
    case measure=>simp[intOf];omega
   ·have E3:=ae (show Dsk.fills (Dsk.blank f.kind) f.places.toList ws=none by rw[ac E1,ac E2,ho];rfl);have rz:=ae (ac F2).res;clear c2 hz2 ho D E2 E1 F1 hcW hpl;rw[c_]at rz;go_wp2_with(have hx:=ac rz;refine wpList_store_row rfl 84 _ _ rfl (W.heap.size+1) #[.int .i64 0,.int .i64 0,.int .i64 0,.int .i64 0,.string ⟨#[]⟩,.string ⟨#[]⟩,.string ⟨#[]⟩] rfl rfl 84 _ hx aJ rfl (cS (Dsk.blank 0)) ?_;clear hx);refine bodyPost_ret (v:=.tuple #[.agg (stpA (Dsk.blank 0)),.bool false]) ?_ rfl ⟨.inr ⟨ac E3,rfl⟩,ah (ac F2).bel om_ _⟩;exact aF (P:=Tryz.prog) Tryz.results49 _ _ (W.heap.size+1) 84 _ (0,0) _ _ rfl rfl (setRow_heap _ _ _ _ _ _ (ac rz)) aU rfl aJ
  case neg=>
   have hz:¬(i:Int)<(ws.length:Int):=om_;obtain rfl:i=ws.length:=om_;have E3:=ae (show Dsk.fills (Dsk.blank f.kind) f.places.toList ws=some y by rw[ac E1];exact fills_end y _ ws);have rz:=ae (ac F1).res;have bx:=ae (ac F1).box;go_wp2_with(first|(have hx:=ac bx;refine wpList_load_row rfl 84 _ rfl (W.heap.size+2) rfl 84 (stpA y) (0,0) _ hx aU rfl aJ ?_;clear hx bx)|(have hx:=ac rz;refine wpList_store_row rfl 84 _ _ rfl (W.heap.size+1) (stpA y) rfl rfl 84 _ hx aJ rfl (cS y) ?_;clear hx));refine bodyPost_ret (v:=.tuple #[.agg (stpA y),.bool true]) ?_ rfl ⟨.inl ⟨y,ac E3,rfl⟩,ah (ac F1).bel om_ _⟩;exact aF (P:=Tryz.prog) Tryz.results49 _ _ (W.heap.size+1) 84 _ (0,0) _ _ rfl rfl (setRow_heap _ _ _ _ _ _ (ac rz)) aU rfl aJ
end
end Go.Proofs.YtfpfpnhpbnnmfadGreatDoor
