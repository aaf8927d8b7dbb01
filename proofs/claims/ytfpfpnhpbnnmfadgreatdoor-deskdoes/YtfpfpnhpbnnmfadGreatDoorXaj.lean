import Derived.Test.YtfpfpnhpbnnmfadGreatDoorXaa
import Derived.Test.YtfpfpnhpbnnmfadGreatDoorXai
set_option maxHeartbeats 40000000
set_option maxRecDepth 100000
namespace Go.Proofs.YtfpfpnhpbnnmfadGreatDoor
section
namespace At
open Go.RowKit
theorem inodeAs_live {ob oc:Nat}(b c:Nat)(m k:Img)(n:Nat)(hn:n<8)(w:World)(hm:ai w b ob m)(hk:ai w c oc k)(hl:m.live n=true):
 Calls Tryz.prog 190 #[.pointer (some ⟨b,ob,none⟩),.pointer (some ⟨c,oc,none⟩),.int .i64 n] w fun e w'=>e=.returned (cU (Img.inodeAs m k n))∧Below w.heap.size w w':=by
 have E:=ae (show Img.inodeAs m k n=⟨true,m.stamp n,Img.uni m k n,Img.partAs m k n 0,Img.partAs m k n 1⟩by unfold Img.inodeAs;rw[if_pos hl]);have hlv:=hm.live n hn;rw[hl]at hlv;have hst:=hm.stamp n hn;have hln:=hm.links n hn;have hp0:=hm.part n 0 hn om_;have hp1:=hm.part n 1 hn om_;have hI:Img.isI (n:Int)=true:=by simp[Img.isI];omega
 have hu:=Img.uni_le m k n;have hlb:=hm.lt;have hlc:=hk.lt;go_enter Tryz.func190,Tryz.ntmps190;go_wp2_with(go_at_call 216;refine(a_ _ _).mono ?_;rw[hI];rintro e w' ⟨rfl,rfl⟩);have hb1:Below w.heap.size w (w.alloc (.cells #[.bool false,.int .i64 0,.int .i64 0,.int .i64 0,.int .i64 0] 68)):=(gX _ _).alloc (gY _) _;refine(union_any b c m k _ _ (hm.below hb1 hm.lt) (hk.below hb1 hk.lt)).mono ?_;rintro e w1 ⟨rfl,e1⟩;rw[e1];clear e1 w1;go_wp2_with fail;have hb2:=hb1.alloc sp_ (.cells #[.bool true,.int .i64 (m.stamp n),.int .i64 (m.links n),.int .i64 (m.part n 0),.int .i64 (m.part n 1)] 68);refine wp_loop_rounds 3 ?_;rw[rounds_succ];go_wp2_with fail;refine(part_any b c m k n 0 hn om_ _ (hm.below hb2 hlb) (hk.below hb2 hlc)).mono ?_;rintro e w1 ⟨rfl,q1,rfl⟩;go_wp2_with fail;rw[rounds_succ];go_wp2_with fail;have hb3:=(aB (n:=q1) hb2).setCell (p:=⟨w.heap.size+1,3,none⟩) (Nat.le_succ _) (.int .i64 (Img.partAs m k n 0));refine(part_any b c m k n 1 hn om_ _ (hm.below hb3 hlb) (hk.below hb3 hlc)).mono ?_;rintro e w1 ⟨rfl,q2,rfl⟩;go_wp2_with fail;rw[rounds_succ];go_wp2_with fail;rw[ac E];have T1:=(((((cQ.start w 68 68 ino0 #[.bool true,.int .i64 (m.stamp n),.int .i64 (m.links n),.int .i64 (m.part n 0),.int .i64 (m.part n 1)]).draw q1).set 3 (.int .i64 (Img.partAs m k n 0))).draw q2).set 4 (.int .i64 (Img.partAs m k n 1))).set 2 (.int .i64 (Img.uni m k n:Nat));have T2:=T1.ret5 (.bool true) (.int .i64 (m.stamp n)) (.int .i64 (Img.uni m k n:Nat)) (.int .i64 (Img.partAs m k n 0)) (.int .i64 (Img.partAs m k n 1));refine bodyPost_ret (v:=cU ⟨true,m.stamp n,Img.uni m k n,Img.partAs m k n 0,Img.partAs m k n 1⟩) ?_ rfl ⟨rfl,T2.below⟩;exact results_cell_row (P:=Tryz.prog) Tryz.results190 _ _ w.heap.size 68 _ (0,0) _ rfl T2.b0 aS rfl bX
theorem inodeAs_dead {ob oc:Nat}(b c:Nat)(m k:Img)(n:Nat)(hn:n<8)(w:World)(hm:ai w b ob m)(hk:ai w c oc k)(hl:m.live n=false):
 Calls Tryz.prog 190 #[.pointer (some ⟨b,ob,none⟩),.pointer (some ⟨c,oc,none⟩),.int .i64 n] w fun e w'=>e=.returned (cU (Img.inodeAs m k n))∧Below w.heap.size w w':=by
 have hlv:=hm.live n hn;rw[hl]at hlv;have hst:=hm.stamp n hn;have hln:=hm.links n hn;have hp0:=hm.part n 0 hn om_;have hp1:=hm.part n 1 hn om_;have klv:=hk.live n hn;have kst:=hk.stamp n hn;have kln:=hk.links n hn;have kp0:=hk.part n 0 hn om_;have kp1:=hk.part n 1 hn om_;have hI:Img.isI (n:Int)=true:=by simp[Img.isI];omega
 have hu:=Img.uni_le m k n;have hlb:=hm.lt;have hlc:=hk.lt;have hb1:Below w.heap.size w (w.alloc (.cells #[.bool false,.int .i64 0,.int .i64 0,.int .i64 0,.int .i64 0] 68)):=(gX _ _).alloc (gY _) _;cases gk:k.live n
 ·have E:=ae (show Img.inodeAs m k n=Ino.none by unfold Img.inodeAs;rw[if_neg (by rw[hl];simp),if_neg (by rw[gk];simp)]);rw[gk]at klv;clear gk hl;go_enter Tryz.func190,Tryz.ntmps190;go_wp2_with(go_at_call 216;refine(a_ _ _).mono ?_;rw[hI];rintro e w' ⟨rfl,rfl⟩);refine(union_any b c m k _ _ (hm.below hb1 hm.lt) (hk.below hb1 hk.lt)).mono ?_;rintro e w1 ⟨rfl,e1⟩;rw[e1];clear e1 w1;go_wp2_with fail;refine(di _).mono ?_;rintro e w2 ⟨rfl,hb⟩;obtain⟨hc,hf⟩:=bcell hb;go_wp2_with fail;have T2:=((cQ.start w 68 68 ino0 _).call hb).ret5 (.bool false) (.int .i64 0) (.int .i64 0) (.int .i64 (-1)) (.int .i64 (-1));rw[ac E];refine bodyPost_ret (v:=cU Ino.none) ?_ rfl ⟨rfl,T2.below⟩;exact results_cell_row (P:=Tryz.prog) Tryz.results190 _ _ w.heap.size 68 _ (0,0) _ rfl T2.b0 aS rfl bX
 ·rw[gk]at klv;cases gu:(((Img.uni m k n:Nat):Int)==0)
  ·have E:=ae (show Img.inodeAs m k n=⟨true,k.stamp n,Img.uni m k n,k.part n 0,k.part n 1⟩by unfold Img.inodeAs;rw[if_neg (by rw[hl];simp),if_pos ⟨gk,by simp at gu;omega⟩]);clear gk hl;go_enter Tryz.func190,Tryz.ntmps190;go_wp2_with(go_at_call 216;refine(a_ _ _).mono ?_;rw[hI];rintro e w' ⟨rfl,rfl⟩);refine(union_any b c m k _ _ (hm.below hb1 hm.lt) (hk.below hb1 hk.lt)).mono ?_;rintro e w1 ⟨rfl,e1⟩;rw[e1];clear e1 w1;go_wp2_with fail;rw[ac E];have T1:=cQ.start w 68 68 #[.bool true,.int .i64 (k.stamp n),.int .i64 (Img.uni m k n:Nat),.int .i64 (k.part n 0),.int .i64 (k.part n 1)] #[.bool true,.int .i64 (k.stamp n),.int .i64 (Img.uni m k n:Nat),.int .i64 (k.part n 0),.int .i64 (k.part n 1)];refine bodyPost_ret (v:=cU ⟨true,k.stamp n,Img.uni m k n,k.part n 0,k.part n 1⟩) ?_ rfl ⟨rfl,T1.below⟩;exact results_cell_row (P:=Tryz.prog) Tryz.results190 _ _ w.heap.size 68 _ (0,0) _ rfl T1.b0 aS rfl bX
  ·have E:=ae (show Img.inodeAs m k n=Ino.none by unfold Img.inodeAs;rw[if_neg (by rw[hl];simp),if_neg (fun z=>z.2 (by simp at gu;omega))]);clear gk hl;go_enter Tryz.func190,Tryz.ntmps190;go_wp2_with(go_at_call 216;refine(a_ _ _).mono ?_;rw[hI];rintro e w' ⟨rfl,rfl⟩);refine(union_any b c m k _ _ (hm.below hb1 hm.lt) (hk.below hb1 hk.lt)).mono ?_;rintro e w1 ⟨rfl,e1⟩;rw[e1];clear e1 w1;go_wp2_with fail;refine(di _).mono ?_;rintro e w2 ⟨rfl,hb⟩;obtain⟨hc,hf⟩:=bcell hb;go_wp2_with fail;have T2:=((cQ.start w 68 68 ino0 _).call hb).ret5 (.bool false) (.int .i64 0) (.int .i64 0) (.int .i64 (-1)) (.int .i64 (-1));rw[ac E];refine bodyPost_ret (v:=cU Ino.none) ?_ rfl ⟨rfl,T2.below⟩;exact results_cell_row (P:=Tryz.prog) Tryz.results190 _ _ w.heap.size 68 _ (0,0) _ rfl T2.b0 aS rfl bX
theorem inode_of {ob oc:Nat}(b c:Nat)(m k:Img)(n:Nat)(hn:n<8)(w:World)(hm:ai w b ob m)(hk:ai w c oc k):
 Calls Tryz.prog 190 #[.pointer (some ⟨b,ob,none⟩),.pointer (some ⟨c,oc,none⟩),.int .i64 n] w fun e w'=>e=.returned (cU (Img.inodeAs m k n))∧Below w.heap.size w w':=by
 cases h:m.live n
 ·exact inodeAs_dead b c m k n hn w hm hk h
 ·exact inodeAs_live b c m k n hn w hm hk h
theorem entry_same {ob oc:Nat}(b c:Nat)(m k:Img)(d s:Nat)(hd:d<3)(hs:s<4)(w:World)(hm:ai w b ob m)(hk:ai w c oc k)(h:Img.sameEnt m k d s=true):
 Calls Tryz.prog 191 #[.pointer (some ⟨b,ob,none⟩),.pointer (some ⟨c,oc,none⟩),.int .i64 d,.int .i64 s] w fun e w'=>e=.returned (cq (Img.entryAs m k d s))∧Below w.heap.size w w':=by
 have E:=ae (show Img.entryAs m k d s=k.entry d s by unfold Img.entryAs;rw[if_pos h]);have hlb:=hm.lt;have hlc:=hk.lt;have q:=eqEnt (m.name d s) (m.ino d s) (m.est d s) (k.name d s) (k.ino d s) (k.est d s);rw[show((m.name d s).toList==(k.name d s).toList&&m.ino d s==k.ino d s&&m.est d s==k.est d s)=_ from h]at q;clear h;have hA:=ae (bG.ab w (m.entry d s) (k.entry d s));have hB:=ae (bG.ba w (m.entry d s) (k.entry d s));have hb1:Below w.heap.size w (w.alloc (.cells (cl Ent.none) 71)):=(gX _ _).alloc (gY _) _;have hm1:=hm.below hb1 hlb;have hk1:=hk.below hb1 hlc;clear hb1;simp only[cl,Ent.none,Img.entry]at hA hB hm1 hk1;go_enter Tryz.func191,Tryz.ntmps191;go_wp2_with fail;have n1:=hm1.name d s hd hs;have i1:=hm1.ino d s hd hs;have s1:=hm1.est d s hd hs;have n2:=hk1.name d s hd hs;have i2:=hk1.ino d s hd hs;have s2:=hk1.est d s hd hs;have hlb1:=hm1.lt;have hlc1:=hk1.lt;generalize w.alloc (.cells #[.string ⟨#[]⟩,.int .i64 0,.int .i64 0] 71)=W at*;go_region
 all_goals
  clear n1 i1 s1 n2 i2 s2 hlb1 hlc1 hm1 hk1
  first
   |(clear hB;generalize(((W.alloc (.cells #[.string (m.name d s),.int .i64 (m.ino d s),.int .i64 (m.est d s)] 71)).alloc (.cells #[.string (k.name d s),.int .i64 (k.ino d s),.int .i64 (k.est d s)] 71)).drew)=X at hA⊢;generalize W.heap.size+1=g2 at hA⊢;generalize W.heap.size=g1 at hA⊢;clear W)
   |(clear hA;have hA:=hB;clear hB;generalize(((W.alloc (.cells #[.string (k.name d s),.int .i64 (k.ino d s),.int .i64 (k.est d s)] 71)).alloc (.cells #[.string (m.name d s),.int .i64 (m.ino d s),.int .i64 (m.est d s)] 71)).drew)=X at hA⊢;generalize W.heap.size+1=g1 at hA⊢;generalize W.heap.size=g2 at hA⊢;clear W)
 all_goals
  have hX:bG w X g1 g2 (m.entry d s) (k.entry d s) Ent.none:=ac hA
  clear hA
  have HX:=ae hX
  have hmX:=ae (hm.below hX.below hlb)
  have hkX:=ae (hk.below hX.below hlc)
  have hszX:=hX.below.size
  obtain⟨c10,c11,c12⟩:=hX.cell1
  obtain⟨c20,c21,c22⟩:=hX.cell2
  obtain⟨c00,c01,c02,fz⟩:=hX.cell0
  clear hX
  dsimp only[Img.entry]at c10 c11 c12 c20 c21 c22
  go_wp2_with fail
  have T:=(ac HX).ret (k.entry d s)
  rw[ac E]
  refine bodyPost_ret (v:=cq (k.entry d s)) ?_ rfl ⟨rfl,T.1⟩
  exact results_cell_row (P:=Tryz.prog) Tryz.results191 _ _ w.heap.size 71 _ (0,0) _ rfl T.2 aV rfl aX
theorem entry_come {ob oc:Nat}(b c:Nat)(m k:Img)(d s:Nat)(hd:d<3)(hs:s<4)(w:World)(hm:ai w b ob m)(hk:ai w c oc k)(h:Img.sameEnt m k d s=false)(hn:k.named d s=false):
 Calls Tryz.prog 191 #[.pointer (some ⟨b,ob,none⟩),.pointer (some ⟨c,oc,none⟩),.int .i64 d,.int .i64 s] w fun e w'=>e=.returned (cq (Img.entryAs m k d s))∧Below w.heap.size w w':=by
 have E:=ae (show Img.entryAs m k d s=if Img.mayCome k (m.ino d s) (m.est d s)=true then m.entry d s else k.entry d s by unfold Img.entryAs;rw[if_neg (by rw[h];simp),if_pos hn]);have hE:(k.name d s).toList.isEmpty=true:=by simpa[Img.named]using hn
 clear hn;have hlb:=hm.lt;have hlc:=hk.lt;have q:=eqEnt (m.name d s) (m.ino d s) (m.est d s) (k.name d s) (k.ino d s) (k.est d s);rw[show((m.name d s).toList==(k.name d s).toList&&m.ino d s==k.ino d s&&m.est d s==k.est d s)=_ from h]at q;clear h;have hA:=ae (bG.ab w (m.entry d s) (k.entry d s));have hB:=ae (bG.ba w (m.entry d s) (k.entry d s));have hb1:Below w.heap.size w (w.alloc (.cells (cl Ent.none) 71)):=(gX _ _).alloc (gY _) _;have hm1:=hm.below hb1 hlb;have hk1:=hk.below hb1 hlc;clear hb1;simp only[cl,Ent.none,Img.entry]at hA hB hm1 hk1;go_enter Tryz.func191,Tryz.ntmps191;go_wp2_with fail;have n1:=hm1.name d s hd hs;have i1:=hm1.ino d s hd hs;have s1:=hm1.est d s hd hs;have n2:=hk1.name d s hd hs;have i2:=hk1.ino d s hd hs;have s2:=hk1.est d s hd hs;have hlb1:=hm1.lt;have hlc1:=hk1.lt;generalize w.alloc (.cells #[.string ⟨#[]⟩,.int .i64 0,.int .i64 0] 71)=W at*;go_region
 all_goals
  clear n1 i1 s1 n2 i2 s2 hlb1 hlc1 hm1 hk1
  first
   |(clear hB;generalize(((W.alloc (.cells #[.string (m.name d s),.int .i64 (m.ino d s),.int .i64 (m.est d s)] 71)).alloc (.cells #[.string (k.name d s),.int .i64 (k.ino d s),.int .i64 (k.est d s)] 71)).drew)=X at hA⊢;generalize W.heap.size+1=g2 at hA⊢;generalize W.heap.size=g1 at hA⊢;clear W)
   |(clear hA;have hA:=hB;clear hB;generalize(((W.alloc (.cells #[.string (k.name d s),.int .i64 (k.ino d s),.int .i64 (k.est d s)] 71)).alloc (.cells #[.string (m.name d s),.int .i64 (m.ino d s),.int .i64 (m.est d s)] 71)).drew)=X at hA⊢;generalize W.heap.size+1=g1 at hA⊢;generalize W.heap.size=g2 at hA⊢;clear W)
 all_goals
  have hX:bG w X g1 g2 (m.entry d s) (k.entry d s) Ent.none:=ac hA
  clear hA
  have HX:=ae hX
  have hmX:=ae (hm.below hX.below hlb)
  have hkX:=ae (hk.below hX.below hlc)
  have hszX:=hX.below.size
  obtain⟨c10,c11,c12⟩:=hX.cell1
  obtain⟨c20,c21,c22⟩:=hX.cell2
  obtain⟨c00,c01,c02,fz⟩:=hX.cell0
  clear hX
  dsimp only[Img.entry]at c10 c11 c12 c20 c21 c22
  go_wp2_with fail
  refine(mayCome_any g1 c 0 k (m.ino d s) (m.est d s) _ (ac hkX) c11 c12).mono ?_
  rintro e w1 ⟨rfl,qd,rfl⟩
  cases hc:Img.mayCome k (m.ino d s) (m.est d s)
  ·go_wp2_with fail;have T:=((ac HX).draw qd).ret (k.entry d s);rw[ac E,hc,if_neg sp_];refine bodyPost_ret (v:=cq (k.entry d s)) ?_ rfl ⟨rfl,T.1⟩;exact results_cell_row (P:=Tryz.prog) Tryz.results191 _ _ w.heap.size 71 _ (0,0) _ rfl T.2 aV rfl aX
  ·go_wp2_with fail;have T:=((ac HX).draw qd).ret (m.entry d s);rw[ac E,hc,if_pos rfl];refine bodyPost_ret (v:=cq (m.entry d s)) ?_ rfl ⟨rfl,T.1⟩;exact results_cell_row (P:=Tryz.prog) Tryz.results191 _ _ w.heap.size 71 _ (0,0) _ rfl T.2 aV rfl aX
theorem entry_go {ob oc:Nat}(b c:Nat)(m k:Img)(d s:Nat)(hd:d<3)(hs:s<4)(w:World)(hm:ai w b ob m)(hk:ai w c oc k)(h:Img.sameEnt m k d s=false)(hn:k.named d s=true):
 Calls Tryz.prog 191 #[.pointer (some ⟨b,ob,none⟩),.pointer (some ⟨c,oc,none⟩),.int .i64 d,.int .i64 s] w fun e w'=>e=.returned (cq (Img.entryAs m k d s))∧Below w.heap.size w w':=by
 have E:=ae (show Img.entryAs m k d s=if Img.mayGo m k (k.ino d s)=true then Ent.none else k.entry d s by unfold Img.entryAs;rw[if_neg (by rw[h];simp),if_neg (by rw[hn];simp)]);have hE:(k.name d s).toList.isEmpty=false:=by simpa[Img.named]using hn
 clear hn;have hlb:=hm.lt;have hlc:=hk.lt;have q:=eqEnt (m.name d s) (m.ino d s) (m.est d s) (k.name d s) (k.ino d s) (k.est d s);rw[show((m.name d s).toList==(k.name d s).toList&&m.ino d s==k.ino d s&&m.est d s==k.est d s)=_ from h]at q;clear h;have hA:=ae (bG.ab w (m.entry d s) (k.entry d s));have hB:=ae (bG.ba w (m.entry d s) (k.entry d s));have hb1:Below w.heap.size w (w.alloc (.cells (cl Ent.none) 71)):=(gX _ _).alloc (gY _) _;have hm1:=hm.below hb1 hlb;have hk1:=hk.below hb1 hlc;clear hb1;simp only[cl,Ent.none,Img.entry]at hA hB hm1 hk1;go_enter Tryz.func191,Tryz.ntmps191;go_wp2_with fail;have n1:=hm1.name d s hd hs;have i1:=hm1.ino d s hd hs;have s1:=hm1.est d s hd hs;have n2:=hk1.name d s hd hs;have i2:=hk1.ino d s hd hs;have s2:=hk1.est d s hd hs;have hlb1:=hm1.lt;have hlc1:=hk1.lt;generalize w.alloc (.cells #[.string ⟨#[]⟩,.int .i64 0,.int .i64 0] 71)=W at*;go_region
 all_goals
  clear n1 i1 s1 n2 i2 s2 hlb1 hlc1 hm1 hk1
  first
   |(clear hB;generalize(((W.alloc (.cells #[.string (m.name d s),.int .i64 (m.ino d s),.int .i64 (m.est d s)] 71)).alloc (.cells #[.string (k.name d s),.int .i64 (k.ino d s),.int .i64 (k.est d s)] 71)).drew)=X at hA⊢;generalize W.heap.size+1=g2 at hA⊢;generalize W.heap.size=g1 at hA⊢;clear W)
   |(clear hA;have hA:=hB;clear hB;generalize(((W.alloc (.cells #[.string (k.name d s),.int .i64 (k.ino d s),.int .i64 (k.est d s)] 71)).alloc (.cells #[.string (m.name d s),.int .i64 (m.ino d s),.int .i64 (m.est d s)] 71)).drew)=X at hA⊢;generalize W.heap.size+1=g1 at hA⊢;generalize W.heap.size=g2 at hA⊢;clear W)
 all_goals
  have hX:bG w X g1 g2 (m.entry d s) (k.entry d s) Ent.none:=ac hA
  clear hA
  have HX:=ae hX
  have hmX:=ae (hm.below hX.below hlb)
  have hkX:=ae (hk.below hX.below hlc)
  have hszX:=hX.below.size
  obtain⟨c10,c11,c12⟩:=hX.cell1
  obtain⟨c20,c21,c22⟩:=hX.cell2
  obtain⟨c00,c01,c02,fz⟩:=hX.cell0
  clear hX
  dsimp only[Img.entry]at c10 c11 c12 c20 c21 c22
  go_wp2_with fail
  refine(mayGo_any b c m k _ _ (ac hmX) (ac hkX)).mono ?_
  rintro e w1 ⟨rfl,e1⟩
  rw[e1]
  clear e1 w1
  cases hc:Img.mayGo m k (k.ino d s)
  ·go_wp2_with fail;have T:=(ac HX).ret (k.entry d s);rw[ac E,hc,if_neg sp_];refine bodyPost_ret (v:=cq (k.entry d s)) ?_ rfl ⟨rfl,T.1⟩;exact results_cell_row (P:=Tryz.prog) Tryz.results191 _ _ w.heap.size 71 _ (0,0) _ rfl T.2 aV rfl aX
  ·go_wp2_with fail;have T:=(ac HX).ret Ent.none;rw[ac E,hc,if_pos rfl];refine bodyPost_ret (v:=cq Ent.none) ?_ rfl ⟨rfl,T.1⟩;exact results_cell_row (P:=Tryz.prog) Tryz.results191 _ _ w.heap.size 71 _ (0,0) _ rfl T.2 aV rfl aX
theorem entry_of {ob oc:Nat}(b c:Nat)(m k:Img)(d s:Nat)(hd:d<3)(hs:s<4)(w:World)(hm:ai w b ob m)(hk:ai w c oc k):
 Calls Tryz.prog 191 #[.pointer (some ⟨b,ob,none⟩),.pointer (some ⟨c,oc,none⟩),.int .i64 d,.int .i64 s] w fun e w'=>e=.returned (cq (Img.entryAs m k d s))∧Below w.heap.size w w':=by
 cases h:Img.sameEnt m k d s
 ·cases hn:k.named d s
  ·exact entry_come b c m k d s hd hs w hm hk h hn
  ·exact entry_go b c m k d s hd hs w hm hk h hn
 ·exact entry_same b c m k d s hd hs w hm hk h
end At
end
end Go.Proofs.YtfpfpnhpbnnmfadGreatDoor
