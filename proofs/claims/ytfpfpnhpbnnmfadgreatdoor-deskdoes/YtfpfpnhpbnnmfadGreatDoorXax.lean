import Derived.Test.YtfpfpnhpbnnmfadGreatDoorXaa
import Derived.Test.YtfpfpnhpbnnmfadGreatDoorXat
import Derived.Test.YtfpfpnhpbnnmfadGreatDoorXaq
import Derived.Test.YtfpfpnhpbnnmfadGreatDoorXao
import Derived.Test.YtfpfpnhpbnnmfadGreatDoorXay
import Derived.Test.YtfpfpnhpbnnmfadGreatDoorXar
set_option maxHeartbeats 40000000
set_option maxRecDepth 100000
set_option linter.unusedVariables false
namespace Go.Proofs.YtfpfpnhpbnnmfadGreatDoor
section
open Go.RowKit
open Idl (Stp chk stpA)
section
variable {w0 w w':World}{bf bc:Nat}{cs ds rows rows':Array Value}{m k:Img}{last:Int}
theorem Fm.row' (h:Fm w0 w bf bc rows last)(rows':Array Value):Fm w0 (w.setRow bc rows') bf bc rows' last:=by
 have hoth:∀i,i≠bc→(w.setRow bc rows').heap[i]? =w.heap[i]? :=fun i hi=>setRow_other _ _ _ _ hi
 have hsz:(w.setRow bc rows').heap.size=w.heap.size:=by simp[World.setRow]
 exact⟨by rw[hoth _ h.ne];exact h.root,setRow_heap w bc _ _ _ _ h.row,h.ne,h.chg.trans (own':=fun i=>i=bc) ⟨rfl,rfl,rfl,by rw[hsz];exact gY _,fun i _ hn=>hoth i hn⟩ (fun i hi=>.inl (.inr hi))⟩
theorem splice5 (h:cs.size=94){n:Nat}(hn:n<8)(i:Ino):aG (cs++ds) (n*5) #[.bool i.live,.int .i64 i.stamp,.int .i64 i.links,.int .i64 i.p0,.int .i64 i.p1]=bT cs n i++ds:=by
 refine ir fun j=>?_;rw[bI (by simp;omega)];have e5:(bT cs n i).size=94:=by unfold bT;simp[h]
 rw[iu,iu,e5,h];unfold bT;simp only[List.size_toArray,ig,iN];by_cases h9:j<94
 ·rw[if_pos h9,if_pos h9,cL om_];by_cases a1:j<n*5
  ·rw[if_pos a1,if_neg om_,if_neg om_,if_neg om_,if_neg om_,if_neg om_]
  ·rw[if_neg a1];by_cases a2:j<n*5+5
   ·rw[if_pos om_];have:j=n*5∨j=n*5+1∨j=n*5+2∨j=n*5+3∨j=n*5+4:=om_;rcases this with rfl|rfl|rfl|rfl|rfl
    ·rw[if_pos rfl,Nat.sub_self];rfl
    ·rw[if_neg om_,if_pos rfl,Nat.add_sub_cancel_left];rfl
    ·rw[if_neg om_,if_neg om_,if_pos rfl,Nat.add_sub_cancel_left];rfl
    ·rw[if_neg om_,if_neg om_,if_neg om_,if_pos rfl,Nat.add_sub_cancel_left];rfl
    ·rw[if_neg om_,if_neg om_,if_neg om_,if_neg om_,if_pos rfl,Nat.add_sub_cancel_left];rfl
   ·rw[if_neg om_,if_neg om_,if_neg om_,if_neg om_,if_neg om_,if_neg om_]
 ·rw[if_neg h9,if_neg h9,if_neg om_,if_neg om_]
theorem splice3 (h:cs.size=94){d s:Nat}(hd:d<3)(hs:s<4)(e:Ent):aG (cs++ds) (40+d*12+s*3) #[.string e.name,.int .i64 e.ino,.int .i64 e.est]=put3v cs d s e++ds:=by
 refine ir fun j=>?_;rw[bI (by simp;omega)];have e5:(put3v cs d s e).size=94:=by unfold put3v;simp[h]
 rw[iu,iu,e5,h];unfold put3v;simp only[List.size_toArray,ig,iN];obtain⟨o,ho⟩:∃o,o=40+d*12+s*3:=⟨_,rfl⟩;rw[←ho];have ho':o+3≤94:=om_;by_cases h9:j<94
 ·rw[if_pos h9,if_pos h9,set3_get om_];by_cases a1:j<o
  ·rw[if_pos a1,if_neg om_,if_neg om_,if_neg om_]
  ·rw[if_neg a1];by_cases a2:j<o+3
   ·rw[if_pos om_];have:j=o∨j=o+1∨j=o+2:=om_;rcases this with rfl|rfl|rfl
    ·rw[if_pos rfl,Nat.sub_self];rfl
    ·rw[if_neg om_,if_pos rfl,Nat.add_sub_cancel_left];rfl
    ·rw[if_neg om_,if_neg om_,if_pos rfl,Nat.add_sub_cancel_left];rfl
   ·rw[if_neg om_,if_neg om_,if_neg om_,if_neg om_]
 ·rw[if_neg h9,if_neg h9,if_neg om_,if_neg om_]
theorem splice2 (h:cs.size=94){x:Nat}(hx:x<9)(o:Int)(t:ByteArray):aG (cs++ds) (76+x*2) #[.int .i64 o,.string t]=put2v cs x o t++ds:=by
 refine ir fun j=>?_;rw[bI (by simp;omega)];have e5:(put2v cs x o t).size=94:=by unfold put2v;simp[h]
 rw[iu,iu,e5,h];unfold put2v;simp only[List.size_toArray,ig,iN];obtain⟨q,hq⟩:∃q,q=76+x*2:=⟨_,rfl⟩;rw[←hq];have hq':q+2≤94:=om_;by_cases h9:j<94
 ·rw[if_pos h9,if_pos h9,set2_get om_];by_cases a1:j<q
  ·rw[if_pos a1,if_neg om_,if_neg om_]
  ·rw[if_neg a1];by_cases a2:j<q+2
   ·rw[if_pos om_];have:j=q∨j=q+1:=om_;rcases this with rfl|rfl
    ·rw[if_pos rfl,Nat.sub_self];rfl
    ·rw[if_neg om_,if_pos rfl,Nat.add_sub_cancel_left];rfl
   ·rw[if_neg om_,if_neg om_,if_neg om_]
 ·rw[if_neg h9,if_neg h9,if_neg om_,if_neg om_]
def Fd (w0 w:World)(bf bc:Nat)(ds:Array Value)(m:Img)(last:Int):Prop:=∃cs,Fm w0 w bf bc (cs++ds) last∧ag cs m
theorem Fl.fd (h:Fl w bf bc cs ds m k last):Fd w w bf bc ds m last:=⟨cs,h.fm,h.now⟩
theorem Fd.fl (h:Fd w0 w bf bc ds m last)(hk:ag ds k):∃cs,Fl w bf bc cs ds m k last:=by
 obtain⟨cs,h1,h2⟩:=h;exact⟨cs,h1.fl h2 hk⟩
theorem Fd.call (h:Fd w0 w bf bc ds m last)(hb:Below w.heap.size w w'):Fd w0 w' bf bc ds m last:=by
 obtain⟨cs,h1,h2⟩:=h;exact⟨cs,h1.call hb,h2⟩
theorem Fd.trans {w1:World}{m1:Img}{l1:Int}(h:Fd w0 w1 bf bc ds m1 l1)(h2:Fd w1 w bf bc ds m last):Fd w0 w bf bc ds m last:=by
 obtain⟨cs1,a1,a2⟩:=h;obtain⟨cs2,b1,b2⟩:=h2;exact⟨cs2,⟨b1.root,b1.row,b1.ne,a1.chg.trans b1.chg (fun i hi=>.inl hi)⟩,b2⟩
theorem Fd.ino (h:Fm w0 w bf bc (cs++ds) last)(hm:ag cs m){n:Nat}(hn:n<8)(i:Ino):Fd w0 (w.setRow bc (aG (cs++ds) (n*5) #[.bool i.live,.int .i64 i.stamp,.int .i64 i.links,.int .i64 i.p0,.int .i64 i.p1])) bf bc ds (m.putIno n i) last:=by
 rw[splice5 hm.size hn];exact⟨_,h.row' _,hm.putIno hn i⟩
theorem Fd.ent (h:Fm w0 w bf bc (cs++ds) last)(hm:ag cs m){d s:Nat}(hd:d<3)(hs:s<4)(e:Ent)(he:e.name.size≤maxLen):Fd w0 (w.setRow bc (aG (cs++ds) (40+d*12+s*3) #[.string e.name,.int .i64 e.ino,.int .i64 e.est])) bf bc ds (m.putEnt d s e) last:=by
 rw[splice3 hm.size hd hs];exact⟨_,h.row' _,hm.putEnt hd hs e he⟩
theorem Fd.dat (h:Fm w0 w bf bc (cs++ds) last)(hm:ag cs m){x:Nat}(hx:x<9)(o:Int)(t:ByteArray)(ht:t.size≤maxLen):Fd w0 (w.setRow bc (aG (cs++ds) (76+x*2) #[.int .i64 o,.string t])) bf bc ds (m.putData x o t) last:=by
 rw[splice2 hm.size hx];exact⟨_,h.row' _,hm.putData hx o t ht⟩
theorem Fd.part (h:Fm w0 w bf bc (cs++ds) last)(hm:ag cs m){n p:Nat}(hn:n<8)(hp:p<2)(v:Int):Fd w0 (w.setCell ⟨bc,n*5+3+p,none⟩ (.int .i64 v)) bf bc ds (m.setPart n p v) last:=
 ⟨_,h.put hm.size om_ _,hm.putPart hn hp v⟩
theorem Fd.lnk (h:Fm w0 w bf bc (cs++ds) last)(hm:ag cs m){n:Nat}(hn:n<8)(v:Int):Fd w0 (w.setCell ⟨bc,n*5+2,none⟩ (.int .i64 v)) bf bc ds (m.putIno n ⟨m.live n,m.stamp n,v,m.part n 0,m.part n 1⟩) last:=
 ⟨_,h.put hm.size om_ _,hm.putLinks hn v⟩
theorem fk:(Tryz.prog.info? 68).map (·.size)=some 5:=kr_
theorem eM:(Tryz.prog.info? 71).map (·.size)=some 3:=kr_
theorem sz_dat:(Tryz.prog.info? 75).map (·.size)=some 2:=kr_
end
end
section
open Go.RowKit
open Idl (Stp chk stpA)
theorem ld_ino {o:Oper}{ρ:Operand→Value}(x:Operand)(ho:o.op=.load 68 x){g:Nat}(hx:ρ x=.pointer (some ⟨g,0,none⟩)){b:Bool}{s l p q:Int}(w:World)(h:w.heap[g]? =some (.cells #[.bool b,.int .i64 s,.int .i64 l,.int .i64 p,.int .i64 q] 68)):(execOp ρ o).run Tryz.prog w=.ok (.value (.agg #[.bool b,.int .i64 s,.int .i64 l,.int .i64 p,.int .i64 q])) w:=by
 have c0:w.cell? ⟨g,0,none⟩=some (.bool b):=by rw[iW w g 0 _ _ _ h];rfl
 have c1:w.cell? ⟨g,1,none⟩=some (.int .i64 s):=by rw[iW w g 1 _ _ _ h];rfl
 have c2:w.cell? ⟨g,2,none⟩=some (.int .i64 l):=by rw[iW w g 2 _ _ _ h];rfl
 have c3:w.cell? ⟨g,3,none⟩=some (.int .i64 p):=by rw[iW w g 3 _ _ _ h];rfl
 have c4:w.cell? ⟨g,4,none⟩=some (.int .i64 q):=by rw[iW w g 4 _ _ _ h];rfl
 clear h;unfold execOp;rw[ho];go_simp
section
variable {w w0 w1:World}{bf bc:Nat}{cs ds rows:Array Value}{m k:Img}{last:Int}
theorem Fm.box (h:Fm w0 w bf bc rows last){g:Nat}(hg:w0.heap.size≤g)(hgf:g≠bf)(hgc:g≠bc)(c:Array Value):Fm w0 (w.setRow g c) bf bc rows last:=by
 have hoth:∀i,i≠g→(w.setRow g c).heap[i]? =w.heap[i]? :=fun i hi=>setRow_other _ _ _ _ hi
 have hsz:(w.setRow g c).heap.size=w.heap.size:=by simp[World.setRow]
 exact⟨by rw[hoth _ (Ne.symm hgf)];exact h.root,by rw[hoth _ (Ne.symm hgc)];exact h.row,h.ne,h.chg.trans (own':=fun i=>i=g) ⟨rfl,rfl,rfl,by rw[hsz];exact gY _,fun i _ hn=>hoth i hn⟩ (fun i hi=>.inr (by rw[hi];exact hg))⟩
theorem Fm.size (h:Fm w0 w bf bc rows last):w0.heap.size≤w.heap.size:=h.chg.size
theorem fP {W:World}{g:Nat}{c:Array Value}{ty:TypeId}(h:W.heap[g]? =some (.cells c ty))(o:Nat)(v:Value):(W.setCell ⟨g,o,none⟩ v).heap[g]? =some (.cells (c.setIfInBounds o v) ty):=by
 rw[setCell_eq_setRow W g o _ _ _ v h,setRow_heap W g _ _ _ _ h]
theorem Fm.boxSet (h:Fm w0 w bf bc rows last){g:Nat}{c:Array Value}{ty:TypeId}(hr:w.heap[g]? =some (.cells c ty))(hg:w0.heap.size≤g)(hgf:g≠bf)(hgc:g≠bc)(o:Nat)(v:Value):Fm w0 (w.setCell ⟨g,o,none⟩ v) bf bc rows last:=by
 rw[setCell_eq_setRow w g o _ _ _ v hr];exact h.box hg hgf hgc _
theorem sstart_any (h:Fl w bf bc cs ds m k last){n:Nat}(hn:n<8)(he:Img.freeIno m k=(n:Int))(hl0:0≤last)(hla:last<4611686018427387904):
 Calls Tryz.prog 115 #[.pointer (some ⟨bf,0,none⟩)] w fun e w'=>e=.returned (.int .i64 ((n:Nat):Int))∧Fd w w' bf bc ds (Img.started m k last) (last+1):=by
 have C1:=ae (gK bc cs ds m k h.now h.disk w h.row);rw[he]at C1;have e1:Img.started m k last=m.putIno n ⟨true,last+1,0,-1,-1⟩:=by unfold Img.started;rw[he,g_]
 rw[e1];have HM:=ae h.now;have FM0:=ae h.fm;have p0:=h.ptr;have l0:=h.flt;have hw:IntKind.i64.wrap (last+1)=last+1:=IntWalk.i64_in _ om_;have HLT:=ae (And.intro h.flt h.clt);clear h he e1;go_enter Tryz.func115,Tryz.ntmps115;go_wp2_with fail;refine(ac C1).mono ?_;rintro e w1 ⟨rfl,b1⟩;have FM1:=ae ((ac FM0).call b1);have q1:=(ac FM1).lst;have z1:=(ac FM1).frozenF 1;have l1:=(ac FM1).flt;clear b1 p0 l0;go_wp2_with fail;have FM2:=ae ((ac FM1).setLast (last+1));clear q1 z1 l1 FM1;generalize w1.setCell ⟨bf,1,none⟩ (.int .i64 (last+1))=w2 at FM2⊢;refine(di w2).mono ?_;rintro e w3 ⟨rfl,b3⟩;have FM3:=ae ((ac FM2).call b3);have GT:=ae (And.intro (ij (ac HLT).1 (h_ (ac FM2).size b3.size)) (ij (ac HLT).2 (h_ (ac FM2).size b3.size)));clear b3 FM2;go_wp2_with(refine wpList_store_row rfl 68 _ _ rfl w3.heap.size #[.bool false,.int .i64 0,.int .i64 0,.int .i64 (-1),.int .i64 (-1)] rfl rfl 68 #[.bool false,.int .i64 0,.int .i64 0,.int .i64 0,.int .i64 0] (iV w3 _) fk rfl kr_ ?_);have ROW:=ae (setRow_heap _ _ _ #[.bool false,.int .i64 0,.int .i64 0,.int .i64 (-1),.int .i64 (-1)] _ _ (iV w3 (.cells #[.bool false,.int .i64 0,.int .i64 0,.int .i64 0,.int .i64 0] 68)));have FM4:=ae (((ac FM3).call ((gX _ _).alloc (gY _) (.cells #[.bool false,.int .i64 0,.int .i64 0,.int .i64 0,.int .i64 0] 68))).box (g:=w3.heap.size) (ac FM3).size (Nat.ne_of_gt (ac GT).1) (Nat.ne_of_gt (ac GT).2) #[.bool false,.int .i64 0,.int .i64 0,.int .i64 (-1),.int .i64 (-1)]);have NE:=ae (And.intro (Nat.ne_of_gt (ac GT).1) (And.intro (Nat.ne_of_gt (ac GT).2) (ac FM3).size));generalize(w3.alloc (.cells #[.bool false,.int .i64 0,.int .i64 0,.int .i64 0,.int .i64 0] 68)).setRow w3.heap.size #[.bool false,.int .i64 0,.int .i64 0,.int .i64 (-1),.int .i64 (-1)]=X at ROW FM4⊢;generalize w3.heap.size=gb at ROW NE⊢;clear FM3 GT;have FM5:=ae ((ac FM4).call (gX _ _).drew);have ROW5:=ae (show X.drew.heap[gb]? =_ from ac ROW);clear FM4 ROW;refine iU (S:=fun W=>W.cell? ⟨bf,1,none⟩=some (.int .i64 (last+1))) kr_ ((ac FM5).lst) (fun hS=>?_);refine tkQ 0 bf 0 rfl hS ?_;refine tkQ 1 bf 0 rfl hS ?_;refine tkQ 2 bf 1 rfl hS ?_;refine tkH 3 (.int .i64 (last+1)) rfl (fun W h=>Op1.ld_int _ rfl kr_ W h) hS ?_;refine tkQ 4 gb 0 rfl hS ?_;generalize World.drew _=W0 at hS FM5 ROW5⊢;refine tkO 5 rfl (fun K hK=>?_);refine Op1.st_bool (v:=true) (.tmp 22) (.const (.bool true)) kr_ rfl kr_ kr_ (by rw[iW W0 gb 0 _ _ _ (ac ROW5)];rfl) (frozen_of_row W0 gb 0 _ _ (ac ROW5)) ?_;have ROW6:=ae (fP (ac ROW5) 0 (.bool true));have FM6:=ae ((ac FM5).boxSet (ac ROW5) (ac NE).2.2 (ac NE).1 (ac NE).2.1 0 (.bool true));refine hK.out _ _ ((ac FM6).lst) (fun hS1=>?_);clear hK K;try simp only[Zsm]
 generalize W0.setCell ⟨gb,0,none⟩ (.bool true)=W1 at hS1 ROW6 FM6⊢;refine tkQ 6 gb 1 rfl hS1 ?_;refine tkO 7 rfl (fun K hK=>?_);refine Op1.st_int (v:=last+1) (.tmp 23) (.tmp 21) kr_ rfl kr_ kr_ (by rw[iW W1 gb 1 _ _ _ (ac ROW6)];rfl) (frozen_of_row W1 gb 1 _ _ (ac ROW6)) ?_;have ROW7:=ae (fP (ac ROW6) 1 (.int .i64 (last+1)));have FM7:=ae ((ac FM6).boxSet (ac ROW6) (ac NE).2.2 (ac NE).1 (ac NE).2.1 1 (.int .i64 (last+1)));refine hK.out _ _ ((ac FM7).lst) (fun hS2=>?_);clear hK K;try simp only[Zsm]
 generalize W1.setCell ⟨gb,1,none⟩ (.int .i64 (last+1))=W2 at hS2 ROW7 FM7⊢;refine tkD ?_;clear hS hS1 hS2 ROW5 ROW6 FM5 FM6;go_wp2_with fail;have FM8:=ae ((ac FM7).call (gX _ _).drew);have ROW8:=ae (show W2.drew.heap[gb]? =some (.cells #[.bool true,.int .i64 (last+1),.int .i64 0,.int .i64 (-1),.int .i64 (-1)] 68)from ac ROW7);clear FM7 ROW7;refine aA (S:=fun W=>W.cell? ⟨bf,0,none⟩=some (.pointer (some ⟨bc,0,none⟩))∧W.heap[gb]? =some (.cells #[.bool true,.int .i64 (last+1),.int .i64 0,.int .i64 (-1),.int .i64 (-1)] 68)) 10 kr_ (⟨(ac FM8).ptr,ac ROW8⟩) (fun hS=>?_);refine fkQ 0 bf 0 rfl hS ?_;refine fkQ 1 bf 0 rfl hS ?_;refine fkQ 2 bf 0 rfl hS ?_;refine fkH 3 (.pointer (some ⟨bc,0,none⟩)) rfl (fun W h=>Op1.ld_ptr _ rfl kr_ W h.1) hS ?_;refine fkP 4 (.int .i64 ((n:Nat):Int)) rfl hS ?_;refine fkH 5 (.agg #[.bool true,.int .i64 (last+1),.int .i64 0,.int .i64 (-1),.int .i64 (-1)]) rfl (fun W h=>ld_ino (.tmp 4) kr_ kr_ W h.2) hS ?_;refine frQ 6 bc 0 rfl hS ?_;refine frQ 7 bc 0 rfl hS ?_;refine frQ 8 bc 0 rfl hS ?_;refine fkH 9 (.pointer (some ⟨bc,n*5,none⟩)) rfl (fun W h=>Op1.ix_ino _ _ rfl kr_ kr_ hn W) hS ?_;generalize World.drew _=W3 at hS FM8⊢;refine fkL rfl (fun K hK=>?_);refine Op1.st_part (cells:= #[.bool true,.int .i64 (last+1),.int .i64 0,.int .i64 (-1),.int .i64 (-1)]) (o0:=n*5) 68 (.tmp 33) (.tmp 29) kr_ rfl kr_ kr_ (ac FM8).row fk (by have:=(ac HM).size;simp;omega) kr_ ?_;refine hK.out _ _ ?_;clear hK K;try simp only[Zsm]
 refine fkD ?_;have DONE:=ae (Fd.ino (ac FM8) (ac HM) hn ⟨true,last+1,0,-1,-1⟩);clear hS;go_wp2_with fail;go_ret;exact⟨rfl,ac DONE⟩
end
end
section
open Go.RowKit
open Idl (Stp chk stpA)
section
variable {w w0 w1:World}{bf bc:Nat}{cs ds rows:Array Value}{m k:Img}{last:Int}
theorem Fm.has (h:Fm w0 w bf bc (cs++ds) last)(hm:ag cs m):ai w bc 0 m:=bh h.row (by rw[iC,hm.size];omega) (dt hm.size) hm
def PS2 (bf bc:Nat)(m:Img)(W:World):Prop:=W.cell? ⟨bf,0,none⟩=some (.pointer (some ⟨bc,0,none⟩))∧ai W bc 0 m
theorem PS2.of (h:Fm w0 w bf bc (cs++ds) last)(hm:ag cs m):PS2 bf bc m w:=⟨h.ptr,h.has hm⟩
theorem fX (h:Fl w bf bc cs ds m k last){d n s:Nat}(hd:d<3)(hn:n<8)(hs:s<4)(he:Img.freeSlot m k (d:Int)=(s:Int))(nm:ByteArray)(hnm:nm.size≤maxLen)(hlk:0≤m.links n∧m.links n≤100):
 Calls Tryz.prog 114 #[.pointer (some ⟨bf,0,none⟩),.int .i64 (d:Int),.string nm,.int .i64 (n:Int)] w fun e w'=>e=.returned (.tuple #[])∧Fd w w' bf bc ds (Img.added m k (d:Int) nm n) last:=by
 have C1:=ae fun W (h1:W.heap[bc]? =some (.cells (cs++ds) 141))=>cSlot_any bc cs ds m k h.now h.disk (d:Int) W h1
 rw[he]at C1;have e1:Img.added m k (d:Int) nm n=(m.putEnt d s ⟨nm,(n:Int),m.stamp n⟩).putIno n ⟨m.live n,m.stamp n,m.links n+1,m.part n 0,m.part n 1⟩:=by unfold Img.added;rw[he,g_,g_]
 rw[e1];have HM:=ae h.now;have FM0:=ae h.fm;have p0:=h.ptr;have l0:=h.flt;have l1:=h.clt;have nz:(n:Int)<8:=om_;clear h he e1;go_enter Tryz.func114,Tryz.ntmps114;go_wp2_with fail;have FM1:=ae ((ac FM0).call (gX _ _).drew);clear FM0 p0 l0 l1 nz;refine aA (S:=PS2 bf bc m) 23 kr_ (PS2.of (ac FM1) (ac HM)) (fun hS=>?_);refine fkQ 0 bf 0 rfl hS ?_;refine fkQ 1 bf 0 rfl hS ?_;refine fkQ 2 bf 0 rfl hS ?_;refine fkH 3 (.pointer (some ⟨bc,0,none⟩)) rfl (fun W h=>Op1.ld_ptr _ rfl kr_ W h.1) hS ?_;refine fkP 4 (.int .i64 (d:Int)) rfl hS ?_;refine fkQ 5 bf 0 rfl hS ?_;refine fkQ 6 bf 0 rfl hS ?_;refine fkQ 7 bf 0 rfl hS ?_;refine fkH 8 (.pointer (some ⟨bc,0,none⟩)) rfl (fun W h=>Op1.ld_ptr _ rfl kr_ W h.1) hS ?_;refine fkP 9 (.int .i64 (d:Int)) rfl hS ?_;refine fkP 11 (.string nm) rfl hS ?_;refine fkP 12 (.int .i64 (n:Int)) rfl hS ?_;refine fkP 13 (.pointer (some ⟨bc,n*5,none⟩)) rfl hS ?_;refine fkP 14 (.pointer (some ⟨bc,n*5,none⟩)) rfl hS ?_;refine fkP 15 (.pointer (some ⟨bc,n*5+1,none⟩)) rfl hS ?_;refine fkH 16 (.int .i64 (m.stamp n)) rfl (fun W h=>Op1.ld_int _ rfl kr_ W (by have:=h.2.stamp n hn;rw[hY]at this;exact this)) hS ?_;refine fkP 17 (.agg #[.string nm,.int .i64 (n:Int),.int .i64 (m.stamp n)]) rfl hS ?_;refine frQ 18 bc 0 rfl hS ?_;refine frQ 19 bc 0 rfl hS ?_;refine frQ 20 bc 40 rfl hS ?_;refine frH 21 (.pointer (some ⟨bc,40+d*12,none⟩)) rfl (fun W _=>Op1.ix_dir _ _ rfl kr_ kr_ hd W) hS ?_;generalize World.drew _=W0 at hS FM1⊢;refine fkO 10 rfl (fun K hK=>?_);go_simp;refine(ac C1 W0 (ac FM1).row).mono ?_;rintro e w1 ⟨rfl,b1⟩;have FM2:=ae ((ac FM1).call b1);clear b1;go_wp2_with fail;have hS1:=PS2.of (ac FM2) (ac HM);refine hK.out _ _ (fun _=>hS1) ?_;clear hK K;try simp only[Zsm]
 refine fkH 22 (.pointer (some ⟨bc,40+d*12+s*3,none⟩)) rfl (fun W h=>Op1.ix_slot _ _ rfl kr_ kr_ hs W) hS1 ?_;refine fkL rfl (fun K hK=>?_);refine Op1.st_part (cells:= #[.string nm,.int .i64 (n:Int),.int .i64 (m.stamp n)]) (o0:=40+d*12+s*3) 71 (.tmp 40) (.tmp 35) kr_ rfl kr_ kr_ (ac FM2).row eM (by have:=(ac HM).size;simp;omega) (by simp[Value.oneCell']) ?_;refine hK.out _ _ ?_;clear hK K;try simp only[Zsm]
 refine fkD ?_;obtain⟨cs1,f3,hm3⟩:=Fd.ent (ac FM2) (ac HM) hd hs ⟨nm,(n:Int),m.stamp n⟩ hnm;have FM3:=ae f3;have HM3:=ae hm3;clear f3 hm3 hS hS1 FM1 FM2;generalize w1.setRow bc (aG (cs++ds) (40+d*12+s*3) #[.string nm,.int .i64 (n:Int),.int .i64 (m.stamp n)])=W3 at FM3⊢;have c2:W3.cell? ⟨bc,n*5+2,none⟩=some (.int .i64 (m.links n)):=by
  have:=((ac FM3).has (ac HM3)).links n hn;rw[hY]at this;exact this
 have z2:=(ac FM3).frozen (n*5+2);have hw:IntKind.i64.wrap (m.links n+1)=m.links n+1:=IntWalk.i64_in _ om_;have l3:=(ac FM3).clt;have DONE:=ae (Fd.lnk (ac FM3) (ac HM3) hn (m.links n+1));go_wp2_with fail;go_end0;exact⟨rfl,ac DONE⟩
end
end
section
open Go.RowKit
theorem By.pair {w wr:World}{l:List (Nat×Array Value×TypeId)}(h:By w wr l)(c:Array Value)(a b d:Value):
 By w ((((((wr.alloc (.cells af 78)).alloc (.cells #[.int .i64 0,.int .i64 0,.int .i64 0] 63)).setRow wr.heap.size c).setCell ⟨wr.heap.size+1,0,none⟩ a).setCell ⟨wr.heap.size+1,1,none⟩ b).setCell ⟨wr.heap.size+1,2,none⟩ d) ((wr.heap.size+1, #[a,b,d],63)::(wr.heap.size,c,78)::l):=by
 have h2:=(h.box af 78).box #[.int .i64 0,.int .i64 0,.int .i64 0] 63;rw[show(wr.alloc (.cells af 78)).heap.size=wr.heap.size+1 by simp]at h2;have h3:=h2.mut1 (Mv.row' (h2.row (wr.heap.size,af,78) sp_) c);have h4:=h3.mut0 (Mv.set0 (v:=a) (h3.row (wr.heap.size+1,_,63) (iq ..)));have h5:=h4.mut0 (Mv.set1 (v:=b) (h4.row (wr.heap.size+1,_,63) (iq ..)));exact h5.mut0 (Mv.set2 (v:=d) (h5.row (wr.heap.size+1,_,63) (iq ..)))
structure Two2 (wr:World)(c:Array Value):Prop where
 r0:((wr.alloc (.cells af 78)).alloc (.cells #[.int .i64 0,.int .i64 0,.int .i64 0] 63)).heap[wr.heap.size]? =some (.cells af 78)
 r1:(((wr.alloc (.cells af 78)).alloc (.cells #[.int .i64 0,.int .i64 0,.int .i64 0] 63)).setRow wr.heap.size c).heap[wr.heap.size+1]? =some (.cells #[.int .i64 0,.int .i64 0,.int .i64 0] 63)
theorem two2 (wr:World)(c:Array Value):Two2 wr c:=by
 refine⟨heap_alloc2_old _ _ _,?_⟩;rw[setRow_other _ _ _ _ om_];exact heap_alloc2_new _ _ _
theorem Two2.cells {wr:World}{c:Array Value}(h:Two2 wr c)(j:Nat)(hj:j<3):(((wr.alloc (.cells af 78)).alloc (.cells #[.int .i64 0,.int .i64 0,.int .i64 0] 63)).setRow wr.heap.size c).cell? ⟨wr.heap.size+1,j,none⟩=some (.int .i64 0):=by
 rw[iW _ _ _ _ _ _ h.r1];match j,hj with
 |0,_=>rfl
 |1,_=>rfl
 |2,_=>rfl
theorem Two2.fz {wr:World}{c:Array Value}(h:Two2 wr c)(j:Nat):(((wr.alloc (.cells af 78)).alloc (.cells #[.int .i64 0,.int .i64 0,.int .i64 0] 63)).setRow wr.heap.size c).frozen? ⟨wr.heap.size+1,j,none⟩=false:=frozen_of_row _ _ _ _ _ h.r1
end
section
open Go.RowKit
open Txt (ba_list)
theorem b_ {w V:World}(hb:Below w.heap.size w V)(ht:Tab w){z:Int}(hz:I64 z):
 Calls Tryz.prog 39 #[.int .i64 z] V fun e w'=>e=.returned (.string ⟨(Lib.itoa z).toArray⟩)∧Below w.heap.size w w':=by
 have I:=cJ hb ht hz;go_enter Tryz.func39,Tryz.ntmps39;go_wp2_with fail;refine I.mono ?_;rintro e w1 ⟨rfl,b1⟩;have B1:=ae b1;clear b1 I;go_wp2_with fail;go_ret;exact⟨rfl,ac B1⟩
theorem bR (a b:List UInt8):mkb a++mkb b=mkb (a++b):=by
 apply ba_list;rw[ByteArray.toList_eq,ByteArray.toList_eq];simp[mkb]
theorem catT {o:Oper}{ρ:Operand→Value}(x y:Operand)(ho:o.op=.binOp .add 9 x y 9){a b:List UInt8}(hx:ρ x=.string (mkb a))(hy:ρ y=.string (mkb b))(hl:a.length+b.length≤1000000000)(w:World):(execOp ρ o).run Tryz.prog w=.ok (.value (.string (mkb (a++b)))) w:=by
 have e:=bR a b;have hz:(mkb a).size+(mkb b).size≤9223372036854775807:=by rw[aC,aC];omega
 unfold execOp;rw[ho];generalize mkb a=A at hx e hz;generalize mkb b=B at hy e hz;go_simp
theorem quoT {o:Oper}{ρ:Operand→Value}(x:Operand)(ho:o.op=.binOp .quo 3 x (.const (.int .i64 16)) 3)(hc:ρ (.const (.int .i64 16))=.int .i64 16){n:Nat}(hn:n<256)(hx:ρ x=.int .i64 (n:Int))(w:World):(execOp ρ o).run Tryz.prog w=.ok (.value (.int .i64 ((n/16:Nat):Int))) w:=by
 unfold execOp;rw[ho];go_simp;rw[IntWalk.i64_left];unfold wrap64;omega
theorem remT {o:Oper}{ρ:Operand→Value}(x:Operand)(ho:o.op=.binOp .rem 3 x (.const (.int .i64 16)) 3)(hc:ρ (.const (.int .i64 16))=.int .i64 16){n:Nat}(hn:n<256)(hx:ρ x=.int .i64 (n:Int))(w:World):(execOp ρ o).run Tryz.prog w=.ok (.value (.int .i64 ((n%16:Nat):Int))) w:=by
 unfold execOp;rw[ho];go_simp;exact Int.tmod_eq_emod_of_nonneg om_
theorem addT {o:Oper}{ρ:Operand→Value}(x:Operand)(ho:o.op=.binOp .add 3 x (.const (.int .i64 1)) 3)(hc:ρ (.const (.int .i64 1))=.int .i64 1){n:Nat}(hn:n<256)(hx:ρ x=.int .i64 (n:Int))(w:World):(execOp ρ o).run Tryz.prog w=.ok (.value (.int .i64 ((n+1:Nat):Int))) w:=by
 unfold execOp;rw[ho];go_simp;rw[IntWalk.i64_left];unfold wrap64;omega
theorem ext_one {S:ByteArray}{n:Nat}(hn:n<S.size):S.extract n (n+1)=mkb [S[n]]:=by
 have h:(S.extract n (n+1)).toList=[S[n]]:=by
  rw[ByteArray.toList_eq,ByteArray.data_extract,Array.toList_extract];show(S.data.toList.drop n).take (n+1-n)=_;have hn2:n<S.data.toList.length:=hn;rw[List.drop_eq_getElem_cons hn2,show n+1-n=1 by omega];rfl
 exact ba_list (h.trans (aY [S[n]]).symm)
theorem sliceT {o:Oper}{ρ:Operand→Value}(x y z:Operand)(ho:o.op=.slice 9 x (some y) (some z) none){S:ByteArray}(hx:ρ x=.string S){n:Nat}(hn:n<S.size)(hs:S.size≤1000000000)(hy:ρ y=.int .i64 (n:Int))(hz:ρ z=.int .i64 ((n+1:Nat):Int))(w:World):(execOp ρ o).run Tryz.prog w=.ok (.value (.string (mkb [S[n]]))) w:=by
 unfold execOp;rw[ho];go_simp;rw[if_pos ⟨om_,om_⟩,if_pos om_,ext_one hn]
theorem digT {o:Oper}{ρ:Operand→Value}(x y z:Operand)(ho:o.op=.slice 9 x (some y) (some z) none)(hx:ρ x=.string ⟨#[48,49,50,51,52,53,54,55,56,57,97,98,99,100,101,102]⟩){n:Nat}(hn:n<16)(hy:ρ y=.int .i64 (n:Int))(hz:ρ z=.int .i64 ((n+1:Nat):Int))(w:World):(execOp ρ o).run Tryz.prog w=.ok (.value (.string (mkb [Txt.hexc n]))) w:=by
 have h:=sliceT x y z ho hx (n:=n) (show n<16 from hn) dc_ hy hz w;rw[hex_get hn]at h;exact h
theorem fE (s:ByteArray)(hs:s.size≤100000000)(w:World):
 Calls Tryz.prog 40 #[.string s] w fun e w'=>e=.returned (.string (mkb (Txt.shows s.toList)))∧Below w.heap.size w w':=by
 go_enter Tryz.func40,Tryz.ntmps40;go_wp2_with fail;go_loopw [4,5] (fun o i wr=>∃k:Nat,k≤s.size∧i=.int .i64 k∧o=.string (mkb (61::Txt.showR (s.toList.take k)))∧Hid (Below w.heap.size w wr)) (fun _ i _=>s.size-(intOf i).toNat)
 case atStart=>exact⟨0,hZ _,rfl,rfl,ae (gX _ _)⟩
 case round=>
  obtain⟨k,hk,rfl,rfl,BR⟩:=hrel;by_cases hlt:k<s.size
  case neg=>
   have hz:¬(k:Int)<(s.size:Int):=om_;have E:=ae (show s.toList.take k=s.toList from List.take_of_length_le (by rw[ap];omega));go_wp2_with fail;go_ret;exact⟨by rw[ac E];rfl,ac BR⟩
  case pos=>
   have hz:(k:Int)<(s.size:Int):=om_;have E:=ae (show 61::Txt.showR (s.toList.take (k+1))=61::Txt.showR (s.toList.take k)++Txt.showB (s[k])by rw[take_byte s hlt,Txt.showR_append,Txt.showR_one];rfl);have LN:=ae (show(61::Txt.showR (s.toList.take k)).length≤400000000 by have:=(Txt.showR_len (s.toList.take k)).2;rw[iI,ap]at this;rw[ig];omega);have XO:=ae (ext_one hlt);generalize 61::Txt.showR (s.toList.take k)=A at E LN⊢;go_upto_region 7 with fail
   have hc:=(s[k]).toNat_lt;have PI:=ae (plain_int (s[k]));obtain⟨n,hn⟩:∃n:Nat,n=(s[k]).toNat:=⟨_,rfl⟩;have SB:=ae (show Txt.plain (s[k])=false→Txt.showB (s[k])=[92,Txt.hexc (n/16),Txt.hexc (n%16)]from fun h=>by unfold Txt.showB;rw[h,hn];rfl);have SY:=ae (show Txt.plain (s[k])=true→Txt.showB (s[k])=[s[k]]from fun h=>by unfold Txt.showB;rw[h];rfl);rw[←hn]at hc PI⊢;clear hn;obtain⟨z,hzz⟩:∃z:Int,z=(n:Int):=⟨_,rfl⟩;rw[←hzz]at PI⊢;have ZN:=ae hzz;clear hzz;have hw:wrap64 z=z:=by have:=ac ZN;unfold wrap64;omega
   rw[hw];obtain⟨pb,hpb⟩:∃b:Bool,b=Txt.plain (s[k]):=⟨_,rfl⟩;rw[←hpb]at PI SB SY;clear hpb;go_cut [26]from 17 to 26 (fun q wx=>q=.bool pb∧wx=wr)
   case first=>
    have pi:=ac PI;by_cases h1:33≤z
    case neg=>
     have q1:decide (33≤z)=false:=by simpa using h1
     rw[q1]at pi;have P:=ae (show pb=false from pi.symm);clear h1 pi;go_wp2_with fail;go_meet;exact⟨by rw[ac P],rfl⟩
    have q1:decide (33≤z)=true:=by simpa using h1
    by_cases h2:z≤126
    case neg=>
     have q2:decide (z≤126)=false:=by simpa using h2
     rw[q1,q2]at pi;have P:=ae (show pb=false from pi.symm);clear h1 h2 pi;go_wp2_with fail;go_meet;exact⟨by rw[ac P],rfl⟩
    have q2:decide (z≤126)=true:=by simpa using h2
    rw[q1,q2]at pi;have P:=ae (show pb= !(z==92)from pi.symm);clear h1 h2 pi;go_wp2_with fail;go_meet;exact⟨by rw[ac P];simp[bne],rfl⟩
   case rest=>
   obtain⟨rfl,hwc⟩:=hcut;rw[hwc];clear hwc wc;cases pb
   case true=>
    have hk1:(k:Int)+1≤(s.size:Int):=om_;have hb:(mkb A).size+(s.extract k (k+1)).size≤9223372036854775807:=by rw[ac XO,aC,aC];have:=ac LN;simp;omega
    have EO:=ae (show mkb A++s.extract k (k+1)=mkb (61::Txt.showR (s.toList.take (k+1)))by rw[ac XO,bR,ac E,ac SY rfl]);clear SB SY PI;go_wp2_with fail;go_roundw
    case rel=>exact⟨k+1,om_,by go_num,by rw[ac EO],BR⟩
    case measure=>simp[intOf];omega
   case false=>
    obtain rfl:=ac ZN;have EO:=ae (show A++([92]++[Txt.hexc (n/16)]++[Txt.hexc (n%16)])=61::Txt.showR (s.toList.take (k+1))by rw[ac E,ac SB rfl];rfl);have ll:=ac LN;clear SB SY PI hw;go_upto_region 9 with fail
    have b0:True:=trivial;refine iU (S:=fun _=>True) kr_ (trivial) (fun hS=>?_);refine tkP 0 (.string (mkb A)) rfl trivial ?_;refine tkP 1 (.string ⟨#[48,49,50,51,52,53,54,55,56,57,97,98,99,100,101,102]⟩) rfl trivial ?_;refine tkP 2 (.int .i64 (n:Int)) rfl trivial ?_;refine tkH 3 (.int .i64 ((n/16:Nat):Int)) rfl (fun W h=>quoT (.tmp 36) kr_ kr_ hc kr_ W) trivial ?_;refine tkP 4 (.int .i64 (n:Int)) rfl trivial ?_;refine tkH 5 (.int .i64 ((n/16:Nat):Int)) rfl (fun W h=>quoT (.tmp 38) kr_ kr_ hc kr_ W) trivial ?_;refine tkH 6 (.int .i64 ((n/16+1:Nat):Int)) rfl (fun W h=>addT (.tmp 39) kr_ kr_ om_ kr_ W) trivial ?_;refine tkH 7 (.string (mkb [Txt.hexc (n/16)])) rfl (fun W h=>digT (.tmp 35) (.tmp 37) (.tmp 40) kr_ kr_ (show n/16<16 by omega) kr_ kr_ W) trivial ?_;refine tkH 8 (.string (mkb ([92]++[Txt.hexc (n/16)]))) rfl (fun W h=>catT (.const (.string ⟨#[92]⟩)) (.tmp 41) kr_ (a:=[92]) kr_ kr_ sp_ W) trivial ?_;refine tkP 9 (.string ⟨#[48,49,50,51,52,53,54,55,56,57,97,98,99,100,101,102]⟩) rfl trivial ?_;refine tkP 10 (.int .i64 (n:Int)) rfl trivial ?_;refine tkH 11 (.int .i64 ((n%16:Nat):Int)) rfl (fun W h=>remT (.tmp 44) kr_ kr_ hc kr_ W) trivial ?_;refine tkP 12 (.int .i64 (n:Int)) rfl trivial ?_;refine tkH 13 (.int .i64 ((n%16:Nat):Int)) rfl (fun W h=>remT (.tmp 46) kr_ kr_ hc kr_ W) trivial ?_;refine tkH 14 (.int .i64 ((n%16+1:Nat):Int)) rfl (fun W h=>addT (.tmp 47) kr_ kr_ om_ kr_ W) trivial ?_;refine tkH 15 (.string (mkb [Txt.hexc (n%16)])) rfl (fun W h=>digT (.tmp 43) (.tmp 45) (.tmp 48) kr_ kr_ (show n%16<16 by omega) kr_ kr_ W) trivial ?_;refine tkH 16 (.string (mkb ([92]++[Txt.hexc (n/16)]++[Txt.hexc (n%16)]))) rfl (fun W h=>catT (.tmp 42) (.tmp 49) kr_ kr_ kr_ sp_ W) trivial ?_;refine tkH 17 (.string (mkb (A++([92]++[Txt.hexc (n/16)]++[Txt.hexc (n%16)])))) rfl (fun W h=>catT (.tmp 34) (.tmp 50) kr_ kr_ kr_ (by simp;omega) W) trivial ?_;refine tkP 18 (.string (mkb (A++([92]++[Txt.hexc (n/16)]++[Txt.hexc (n%16)])))) rfl trivial ?_;refine tkD ?_;clear hS;have B2:=ae (ac BR).drew;go_wp2_with fail;go_roundw
    case rel=>exact⟨k+1,om_,by go_num,by rw[ac EO],B2⟩
    case measure=>simp[intOf];omega
end
end Go.Proofs.YtfpfpnhpbnnmfadGreatDoor
