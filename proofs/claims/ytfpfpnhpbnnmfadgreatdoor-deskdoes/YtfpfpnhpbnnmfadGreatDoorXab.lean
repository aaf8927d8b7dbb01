import Derived.Test.YtfpfpnhpbnnmfadGreatDoorXaa
import Derived.Deep.QuietTactic
import Derived.BigQuiet
set_option maxHeartbeats 40000000
set_option maxRecDepth 100000
namespace Go.Proofs.YtfpfpnhpbnnmfadGreatDoor
section
open Go.RowKit
theorem aB {B:Nat}{a w:World}(h:Below B a w):∀{n:Nat},Below B a (w.drewN n):=fun{n}=>by
 induction n with
 |zero=>exact h
 |succ n ih=>exact ih.drew
theorem di (w:World):
 Calls Tryz.prog 101 #[] w fun e w'=>e=.returned (.agg #[.bool false,.int .i64 0,.int .i64 0,.int .i64 (-1),.int .i64 (-1)])∧Below w.heap.size w w':=by
 go_enter Tryz.func101,Tryz.ntmps101;go_wp2;refine wp_loop_rounds 3 ?_;rw[rounds_succ];go_wp2;rw[rounds_succ];go_wp2;rw[rounds_succ];go_wp2;exact bodyPost_ret (v:=.agg #[.bool false,.int .i64 0,.int .i64 0,.int .i64 (-1),.int .i64 (-1)]) (by simp[results,Tryz.results101,go_sem]) rfl ⟨rfl,((gX _ _).alloc (gY _) _).alloc sp_ _⟩
theorem slot_empty (b:Nat)(m:Img)(d s:Nat)(hd:d<3)(hs:s<4)(w:World)(hm:aP w b m)(h:m.named d s=false):
 Calls Tryz.prog 192 #[.pointer (some ⟨b,0,none⟩),.int .i64 d,.int .i64 s] w fun e w'=>e=.returned (.int .i64 (m.checkSlot d s))∧Below w.heap.size w w':=by
 have hn:=hm.name d s hd hs;have hi:=hm.ino d s hd hs;have he:=hm.est d s hd hs;have h1:(m.name d s).toList.isEmpty=true:=by simpa[Img.named]using h
 have hl:=hm.lt;have h2:m.checkSlot d s=if m.ino d s=0∧m.est d s=0 then 0 else 12:=by unfold Img.checkSlot;rw[if_pos h]
 cases g1:m.ino d s==0
 ·have E:=ae (h2.trans (if_neg fun x=>by rw[x.1]at g1;simp at g1));clear h2;go_enter Tryz.func192,Tryz.ntmps192;go_wp2;all_goals(go_ret;exact⟨az (ac E).symm,(gX _ _).alloc (gY _) _⟩)
 ·cases g2:m.est d s==0
  ·have E:=ae (h2.trans (if_neg fun x=>by rw[x.2]at g2;simp at g2));clear h2;go_enter Tryz.func192,Tryz.ntmps192;go_wp2;all_goals(go_ret;exact⟨az (ac E).symm,(gX _ _).alloc (gY _) _⟩)
  ·have E:=ae (h2.trans (if_pos ⟨by simpa using g1,by simpa using g2⟩));clear h2;go_enter Tryz.func192,Tryz.ntmps192;go_wp2;all_goals(go_ret;exact⟨az (ac E).symm,(gX _ _).alloc (gY _) _⟩)
theorem slot_named (b:Nat)(m:Img)(d s:Nat)(hd:d<3)(hs:s<4)(w:World)(hm:aP w b m)(h:m.named d s=true):
 Calls Tryz.prog 192 #[.pointer (some ⟨b,0,none⟩),.int .i64 d,.int .i64 s] w fun e w'=>e=.returned (.int .i64 (m.checkSlot d s))∧Below w.heap.size w w':=by
 have hn:=hm.name d s hd hs;have hi:=hm.ino d s hd hs;have he:=hm.est d s hd hs;have h1:(m.name d s).toList.isEmpty=false:=by simpa[Img.named]using h
 have hl:=hm.lt;have hsz:=hm.small d s;have hb1:Below w.heap.size w (w.alloc (.cells #[.string (m.name d s),.int .i64 (m.ino d s),.int .i64 (m.est d s)] 71)):=(gX _ _).alloc (gY _) _;have hm1:=hm.below hb1 hl;have h2:m.checkSlot d s=if Img.isNmB (m.name d s).toList=false then 2
 else if m.find d (m.name d s).toList<s then 4
 else if Img.isI (m.ino d s)=false then 1
 else if m.live (m.ino d s).toNat=false∨m.stamp (m.ino d s).toNat≠m.est d s then 8 else 0:=by unfold Img.checkSlot;rw[if_neg (by rw[h];simp)]
 cases g1:Img.isNmB (m.name d s).toList
 ·have E:=ae (h2.trans (if_pos g1));clear h2;go_enter Tryz.func192,Tryz.ntmps192;go_wp2_with(go_at_call 221;refine(cN _ hsz _).mono ?_;rw[g1];rintro e w' ⟨rfl,rfl⟩);go_ret;exact⟨az (ac E).symm,(gX _ _).alloc (gY _) _⟩
 rw[if_neg (by rw[g1];simp)]at h2;by_cases g2:m.find d (m.name d s).toList<s
 ·have E:=ae (h2.trans (if_pos g2));clear h2;go_enter Tryz.func192,Tryz.ntmps192;go_wp2_with(first|(go_at_call 221;refine(cN _ hsz _).mono ?_;rw[g1];rintro e w' ⟨rfl,rfl⟩)|(go_at_call 88;refine(find_in b m d hd _ h1 _ hm1).mono ?_;rintro e w' ⟨rfl,rfl⟩));go_ret;exact⟨az (ac E).symm,(gX _ _).alloc (gY _) _⟩
 rw[if_neg g2]at h2;cases g3:Img.isI (m.ino d s)
 ·have E:=ae (h2.trans (if_pos g3));clear h2;go_enter Tryz.func192,Tryz.ntmps192;go_wp2_with(first|(go_at_call 221;refine(cN _ hsz _).mono ?_;rw[g1];rintro e w' ⟨rfl,rfl⟩)|(go_at_call 88;refine(find_in b m d hd _ h1 _ hm1).mono ?_;rintro e w' ⟨rfl,rfl⟩)|(go_at_call 222;refine(dp _ _).mono ?_;rw[g3];rintro e w' ⟨rfl,rfl⟩));go_ret;exact⟨az (ac E).symm,(gX _ _).alloc (gY _) _⟩
 rw[if_neg (by rw[g3];simp)]at h2;have hb:0≤m.ino d s∧m.ino d s<8:=by simpa[Img.isI]using g3
 obtain⟨k,hk⟩:=hU hb.1;have hk8:k<8:=om_;have hlv:=hm1.live k hk8;have hst:=hm1.stamp k hk8;rw[hk]at h2 hi hb1 hm1 hlv hst g3;rw[g_]at h2;clear hb;cases g4:m.live k
 ·have E:=ae (h2.trans (if_pos (.inl g4)));clear h2 hk;rw[g4]at hlv;go_enter Tryz.func192,Tryz.ntmps192;go_wp2_with(first|(go_at_call 221;refine(cN _ hsz _).mono ?_;rw[g1];rintro e w' ⟨rfl,rfl⟩)|(go_at_call 88;refine(find_in b m d hd _ h1 _ hm1).mono ?_;rintro e w' ⟨rfl,rfl⟩)|(go_at_call 222;refine(dp _ _).mono ?_;rw[g3];rintro e w' ⟨rfl,rfl⟩));go_quiet (fail)
  go_wp2;go_ret;exact⟨az (ac E).symm,aB ((gX _ _).alloc (gY _) _)⟩
 rw[g4]at hlv;cases g5:m.stamp k==m.est d s
 ·have E:=ae (h2.trans (if_pos (.inr (by simpa using g5))));clear h2 hk;go_enter Tryz.func192,Tryz.ntmps192;go_wp2_with(first|(go_at_call 221;refine(cN _ hsz _).mono ?_;rw[g1];rintro e w' ⟨rfl,rfl⟩)|(go_at_call 88;refine(find_in b m d hd _ h1 _ hm1).mono ?_;rintro e w' ⟨rfl,rfl⟩)|(go_at_call 222;refine(dp _ _).mono ?_;rw[g3];rintro e w' ⟨rfl,rfl⟩));go_quiet (fail)
  go_wp2;go_ret;exact⟨az (ac E).symm,aB ((gX _ _).alloc (gY _) _)⟩
 ·have E:=ae (h2.trans (if_neg (fun x=>by rcases x with x|x;(rw[g4]at x;cases x);exact x (by simpa using g5))));clear h2 hk;go_enter Tryz.func192,Tryz.ntmps192;go_wp2_with(first|(go_at_call 221;refine(cN _ hsz _).mono ?_;rw[g1];rintro e w' ⟨rfl,rfl⟩)|(go_at_call 88;refine(find_in b m d hd _ h1 _ hm1).mono ?_;rintro e w' ⟨rfl,rfl⟩)|(go_at_call 222;refine(dp _ _).mono ?_;rw[g3];rintro e w' ⟨rfl,rfl⟩));go_quiet (fail)
  go_wp2;go_ret;exact⟨az (ac E).symm,aB ((gX _ _).alloc (gY _) _)⟩
end
section
open Go.RowKit
theorem slot_any (b:Nat)(m:Img)(d s:Nat)(hd:d<3)(hs:s<4)(w:World)(hm:aP w b m):
 Calls Tryz.prog 192 #[.pointer (some ⟨b,0,none⟩),.int .i64 d,.int .i64 s] w fun e w'=>e=.returned (.int .i64 (m.checkSlot d s))∧Below w.heap.size w w':=by
 cases h:m.named d s
 ·exact slot_empty b m d s hd hs w hm h
 ·exact slot_named b m d s hd hs w hm h
theorem fD (w:World)(a b:Nat):(w.drewN a).drewN b=w.drewN (a+b):=by simp[World.drewN,ix]
def tw (m:Img)(n k:Nat):Bool:=m.live n&&m.live k&&m.stamp n==m.stamp k
theorem aQ {p:Nat→Prop}{k:Nat}(h:∀j,j<k→p j)(hk:p k):∀j,j<k+1→p j:=fun j hj=>by
 by_cases e:j=k
 ·subst e;exact hk
 ·exact h j om_
theorem da (b:Nat)(m:Img)(w:World)(hm:aP w b m):
 Calls Tryz.prog 194 #[.pointer (some ⟨b,0,none⟩)] w fun e w'=>e=.returned (.bool m.stampTwice)∧∃q,w'=w.drewN q:=by
 have hlv:=hm.live;have hst:=hm.stamp;go_enter Tryz.func194,Tryz.ntmps194;go_wp2;go_loopw [5] (fun i wr=>∃n q:Nat,n≤8∧i=.int .i64 n∧wr=w.drewN q∧∀j,j<n→Img.anyB (tw m j) j=false) (fun i _=>8-(intOf i).toNat)
 case atStart=>exact⟨0,0,om_,rfl,rfl,fun j hj=>by omega⟩
 case round=>
  obtain⟨n,q,hn,rfl,rfl,hall⟩:=hrel;have H:=ae hall;clear hall;by_cases hlt:n<8
  ·go_wp2;go_loopw [9] (fun i wr=>∃k q:Nat,k≤n∧i=.int .i64 k∧wr=w.drewN q∧∀j,j<k→tw m n j=false) (fun i _=>n-(intOf i).toNat)
   case atStart=>exact⟨0,q,om_,rfl,rfl,fun j hj=>by omega⟩
   case round=>
    obtain⟨k,q,hk,rfl,rfl,hall⟩:=hrel;have H2:=ae hall;clear hall;by_cases hkn:k<n
    ·have hln:=hlv n hlt;have hlk:=hlv k om_;have hsn:=hst n hlt;have hsk:=hst k om_;cases gn:m.live n
     ·rw[gn]at hln;have E:=ae (show tw m n k=false by unfold tw;rw[gn];rfl);go_wp2;go_quiet (fail)
      go_wp2;go_roundw
      case rel=>exact⟨k+1,_,om_,by go_num,rfl,aQ (ac H2) (ac E)⟩
      case measure=>simp[intOf];omega
     rw[gn]at hln;cases gk:m.live k
     ·rw[gk]at hlk;have E:=ae (show tw m n k=false by unfold tw;rw[gk,Bool.and_false];rfl);go_wp2;go_quiet (fail)
      go_wp2;go_roundw
      case rel=>exact⟨k+1,_,om_,by go_num,rfl,aQ (ac H2) (ac E)⟩
      case measure=>simp[intOf];omega
     rw[gk]at hlk;cases ge:m.stamp n==m.stamp k
     ·have E:=ae (show tw m n k=false by unfold tw;rw[ge,Bool.and_false]);go_wp2;go_quiet (fail)
      go_wp2;go_roundw
      case rel=>exact⟨k+1,_,om_,by go_num,rfl,aQ (ac H2) (ac E)⟩
      case measure=>simp[intOf];omega
     ·have E:=ae (show tw m n k=true by unfold tw;rw[gn,gk,ge];rfl);go_wp2;go_quiet (fail)
      go_wp2;go_ret;exact⟨av (Img.anyB_true (p:=fun n=>Img.anyB (tw m n) n) hlt (Img.anyB_true hkn (ac E))).symm,_,fD _ _ _⟩
    ·have e:k=n:=om_;subst e;go_wp2;go_roundw
     case rel=>exact⟨k+1,q,om_,by go_num,rfl,aQ (ac H) (Img.anyB_false.2 (ac H2))⟩
     case measure=>simp[intOf];omega
  ·have e:n=8:=om_;subst e;go_wp2;go_ret;exact⟨av (Img.anyB_false.2 (ac H):Img.anyB (fun n=>Img.anyB (tw m n) n) 8=false).symm,q,rfl⟩
def dup (m:Img)(t:Nat):Bool:=Img.isD (m.pa t)&&Img.anyB (fun u=>m.pa u==m.pa t) t
structure Held (w:World)(m:Img)(t:Nat)(wr:World):Prop where
 below:Below w.heap.size w wr
 size:w.heap.size<wr.heap.size
 cell:∀x:Nat,x<9→wr.cell? ⟨w.heap.size,x,none⟩=some (.bool (Img.anyB (fun u=>m.pa u==(x:Int)) t))
 frozen:∀x:Nat,wr.frozen? ⟨w.heap.size,x,none⟩=false
theorem Held.skip {w:World}{m:Img}{t:Nat}{wr:World}(h:Held w m t wr)(hd:Img.isD (m.pa t)=false):Held w m (t+1) wr:=
 ⟨h.below,h.size,fun x hx=>by
  have e:(m.pa t==(x:Int))=false:=by
   cases e:m.pa t==(x:Int)
   ·rfl
   ·have e2:m.pa t=x:=by simpa using e
    rw[e2]at hd;simp[Img.isD]at hd;omega
  rw[h.cell x hx];unfold Img.anyB;rw[e,Bool.or_false];cases t<;>rfl,h.frozen⟩
theorem Held.put {w:World}{m:Img}{t:Nat}{wr:World}(h:Held w m t wr){k:Nat}(hk:k<9)(hp:m.pa t=k):Held w m (t+1) (wr.setCell ⟨w.heap.size,k,none⟩ (.bool true)):=by
 refine⟨h.below.setCell (gY _) _,by simpa using h.size,fun x hx=>?_,fun x=>by simpa using h.frozen x⟩;have en:∀x:Nat,Img.anyB (fun u=>m.pa u==(x:Int)) (t+1)=(Img.anyB (fun u=>m.pa u==(x:Int)) t||(m.pa t==(x:Int))):=fun _=>rfl
 by_cases e:k=x
 ·subst e;rw[World.cell?_setCell_same _ _ _ (h.cell k hk),en,hp];simp
 ·rw[World.cell?_setCell_other _ _ _ _ (fun x=>e (by injection x)),h.cell x hx,en,hp];have:((k:Int)==(x:Int))=false:=by simp;omega
  rw[this,Bool.or_false]
theorem pa_live {m:Img}{n p:Nat}(hp:p<2)(h:m.live n=true):m.pa (2*n+p)=m.part n p:=by
 unfold Img.pa;rw[show(2*n+p)/2=n by omega,show(2*n+p)%2=p by omega,h];rfl
theorem pa_dead {m:Img}{n p:Nat}(hp:p<2)(h:m.live n=false):m.pa (2*n+p)= -1:=by
 unfold Img.pa;rw[show(2*n+p)/2=n by omega,h];rfl
theorem Held.dead {w:World}{m:Img}{n:Nat}{wr:World}(h:Held w m (2*n) wr)(hl:m.live n=false):Held w m (2*(n+1)) wr:=by
 have h1:=h.skip (by have:=pa_dead (p:=0) om_ hl;rw[Nat.add_zero]at this;rw[this];rfl);exact h1.skip (by rw[pa_dead (p:=1) om_ hl];rfl)
theorem dup_dead {m:Img}{n p:Nat}(hp:p<2)(h:m.live n=false):dup m (2*n+p)=false:=by unfold dup;rw[pa_dead hp h];rfl
theorem dups_dead {m:Img}{n:Nat}(h:m.live n=false)(ha:∀j,j<2*n→dup m j=false):∀j,j<2*(n+1)→dup m j=false:=fun j hj=>by
 by_cases e:j<2*n
 ·exact ha j e
 ·have:=dup_dead (m:=m) (n:=n) (p:=j-2*n) om_ h;rwa[show 2*n+(j-2*n)=j by omega]at this
theorem idx2 (f:Nat→Int)(p:Nat)(hp:p<2)(w:World):(Instr.index 66 (.agg #[.int .i64 (f 0),.int .i64 (f 1)]) (.int .i64 (p:Int))).run Tryz.prog w=.ok (.int .i64 (f p)) w:=
 match p,hp with
 |0,_=>by kernel_rfl
 |1,_=>by kernel_rfl
theorem held0 (w:World)(m:Img):Held w m 0 (w.alloc (.cells #[.bool false,.bool false,.bool false,.bool false,.bool false,.bool false,.bool false,.bool false,.bool false] 256)):=by
 refine⟨(gX _ _).alloc (gY _) _,sp_,fun x hx=>?_,fun x=>by simp⟩;match x,hx with
 |0,_=>simp[Img.anyB]
 |1,_=>simp[Img.anyB]
 |2,_=>simp[Img.anyB]
 |3,_=>simp[Img.anyB]
 |4,_=>simp[Img.anyB]
 |5,_=>simp[Img.anyB]
 |6,_=>simp[Img.anyB]
 |7,_=>simp[Img.anyB]
 |8,_=>simp[Img.anyB]
theorem eJ (b:Nat)(m:Img)(w:World)(hm:aP w b m):
 Calls Tryz.prog 195 #[.pointer (some ⟨b,0,none⟩)] w fun e w'=>e=.returned (.bool m.dataTwice)∧Below w.heap.size w w':=by
 have hlb:=hm.lt;go_enter Tryz.func195,Tryz.ntmps195;go_wp2;go_loopw [7] (fun i wr=>∃n:Nat,n≤8∧i=.int .i64 n∧Held w m (2*n) wr∧∀j,j<2*n→dup m j=false) (fun i _=>8-(intOf i).toNat)
 case atStart=>exact⟨0,om_,rfl,held0 w m,fun j hj=>by omega⟩
 case round=>
  obtain⟨n,hn,rfl,hheld,hall⟩:=hrel;have H:=ae hall;clear hall;have hmr:=hm.below hheld.below hlb;by_cases hlt:n<8
  ·have hln:=hmr.live n hlt;cases gn:m.live n
   ·rw[gn]at hln;go_wp2;go_roundw
    case rel=>exact⟨n+1,om_,by go_num,hheld.dead gn,dups_dead gn (ac H)⟩
    case measure=>simp[intOf];omega
   ·rw[gn]at hln;have hd8:decide ((n:Int)<8)=true:=by simp;omega
    have hp0:=hmr.part n 0 hlt om_;have hp1:=hmr.part n 1 hlt om_;go_wp2;go_loopw [25] (fun i wr=>∃p:Nat,p≤2∧i=.int .i64 p∧Held w m (2*n+p) wr∧∀j,j<2*n+p→dup m j=false) (fun i _=>2-(intOf i).toNat)
    case atStart=>exact⟨0,om_,rfl,hheld,ac H⟩
    case round=>
     clear hmr hln hp0 hp1 hheld H;obtain⟨p,hp,rfl,hheld,hall⟩:=hrel;have H:=ae hall;clear hall;by_cases hlp:p<2
     ·have hix:=idx2 (m.part n) p hlp;have hpa:=pa_live (m:=m) hlp gn;have HP:=ae hpa;clear hpa;cases gd:Img.isD (m.part n p)
      ·have E:=ae (hheld.skip (by rw[ac HP];exact gd));have E2:=ae (show dup m (2*n+p)=false by unfold dup;rw[ac HP,gd];rfl);go_wp2_with(go_at_call 224;refine(bm _ _).mono ?_;rw[gd];rintro e w' ⟨rfl,rfl⟩);go_roundw
       case rel=>exact⟨p+1,om_,by go_num,ac E,aQ (ac H) (ac E2)⟩
       case measure=>simp[intOf];omega
      ·have hb:0≤m.part n p∧m.part n p<9:=by simpa[Img.isD]using gd
       obtain⟨k,hk⟩:=hU hb.1;have hk9:k<9:=om_;clear hb;have hc:=hheld.cell k hk9;have hf:=hheld.frozen k;rw[hk]at hix gd;have HK:=ae hk;clear hk;cases gh:Img.anyB (fun u=>m.pa u==(k:Int)) (2*n+p)
       ·rw[gh]at hc;have E:=ae (hheld.put hk9 ((ac HP).trans (ac HK)));have E2:=ae (show dup m (2*n+p)=false by unfold dup;rw[ac HP,ac HK,gh,Bool.and_false]);go_wp2_with(go_at_call 224;refine(bm _ _).mono ?_;rw[gd];rintro e w' ⟨rfl,rfl⟩);go_roundw
        case rel=>exact⟨p+1,om_,by go_num,ac E,aQ (ac H) (ac E2)⟩
        case measure=>simp[intOf];omega
       ·rw[gh]at hc;have E2:=ae (show dup m (2*n+p)=true by unfold dup;rw[ac HP,ac HK,gh,gd];rfl);go_wp2_with(go_at_call 224;refine(bm _ _).mono ?_;rw[gd];rintro e w' ⟨rfl,rfl⟩);go_ret;exact⟨av (Img.anyB_true (p:=dup m) (k:=2*n+p) (n:=16) om_ (ac E2)).symm,hheld.below⟩
     ·have e:p=2:=om_;subst e;go_wp2;go_roundw
      case rel=>exact⟨n+1,om_,by go_num,hheld,ac H⟩
      case measure=>simp[intOf];omega
  ·have e:n=8:=om_;subst e;go_wp2;go_ret;exact⟨av (Img.anyB_false.2 (ac H):Img.anyB (dup m) 16=false).symm,hheld.below⟩
end
end Go.Proofs.YtfpfpnhpbnnmfadGreatDoor
