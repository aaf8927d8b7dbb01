import Derived.Test.YtfpfpnhpbnnmfadGreatDoorXaa
import Derived.Test.YtfpfpnhpbnnmfadGreatDoorXac
import Derived.Deep.WholeRow
import Derived.Test.YtfpfpnhpbnnmfadGreatDoorXaq
set_option maxHeartbeats 40000000
set_option maxRecDepth 100000
namespace Go.Proofs.YtfpfpnhpbnnmfadGreatDoor
section
open Go.RowKit
theorem inode_count (b:Nat)(m:Img)(n:Nat)(hn:n<8)(w:World)(hm:aP w b m)(h:m.live n=true)(hbad:m.stamp n<1∨m.links n<m.refs n):
 Calls Tryz.prog 193 #[.pointer (some ⟨b,0,none⟩),.int .i64 n] w fun e w'=>e=.returned (.int .i64 (m.checkInode n))∧Below w.heap.size w w':=by
 have hlv:=hm.live n hn;rw[h]at hlv;have hst:=hm.stamp n hn;have hlk:=hm.links n hn;have hp0:=hm.part n 0 hn om_;have hp1:=hm.part n 1 hn om_;have hl:=hm.lt;have E:=ae (show m.checkInode n=9 by unfold Img.checkInode;rw[if_neg (by rw[h];simp),if_pos hbad]);have hb1:Below w.heap.size w (w.alloc (.cells #[.bool true,.int .i64 (m.stamp n),.int .i64 (m.links n),.int .i64 (m.part n 0),.int .i64 (m.part n 1)] 68)):=(gX _ _).alloc (gY _) _;by_cases h1:m.stamp n<1
 ·clear hbad;go_enter Tryz.func193,Tryz.ntmps193;go_wp2;go_quiet (fail)
  go_wp2;go_ret;exact⟨az (ac E).symm,aB hb1⟩
 ·have h2:m.links n<m.refs n:=by rcases hbad with x|x;exact absurd x h1;exact x
  have h1d:decide (m.stamp n<1)=false:=by simpa using h1
  clear hbad;go_enter Tryz.func193,Tryz.ntmps193;go_wp2;go_quiet ((go_at_call 157;exact Calls.quiet_of_same (refs_any _ m _ _ (hm.below (aB hb1) hl))))
  go_wp2;go_ret;exact⟨az (ac E).symm,aB hb1⟩
theorem inode_parts (b:Nat)(m:Img)(n:Nat)(hn:n<8)(w:World)(hm:aP w b m)(h:m.live n=true)(h1:1≤m.stamp n)(h2:(m.refs n:Int)≤m.links n):
 Calls Tryz.prog 193 #[.pointer (some ⟨b,0,none⟩),.int .i64 n] w fun e w'=>e=.returned (.int .i64 (m.checkInode n))∧Below w.heap.size w w':=by
 have hlv:=hm.live n hn;rw[h]at hlv;have hst:=hm.stamp n hn;have hlk:=hm.links n hn;have hp0:=hm.part n 0 hn om_;have hp1:=hm.part n 1 hn om_;have hl:=hm.lt;have E:=ae (show m.checkInode n=Img.firstNZ (fun p=>m.checkPart (m.part n p) (m.stamp n)) 2 by unfold Img.checkInode;rw[if_neg (by rw[h];simp),if_neg om_]);have hb1:Below w.heap.size w (w.alloc (.cells #[.bool true,.int .i64 (m.stamp n),.int .i64 (m.links n),.int .i64 (m.part n 0),.int .i64 (m.part n 1)] 68)):=(gX _ _).alloc (gY _) _;have h1d:decide (m.stamp n<1)=false:=by simp;omega
 have h2d:decide (m.links n<(m.refs n:Int))=false:=by simp;omega
 have hN:¬m.links n<(m.refs n:Int):=om_;go_enter Tryz.func193,Tryz.ntmps193;go_wp2;go_quiet ((go_at_call 157;exact Calls.quiet_of_same (refs_any _ m _ _ (hm.below (aB hb1) hl))))
 go_wp2;go_loop [34] (fun i=>∃p:Nat,p≤2∧i=.int .i64 p∧∀j,j<p→m.checkPart (m.part n j) (m.stamp n)=0) (fun i=>2-(intOf i).toNat)
 case atStart=>exact⟨0,om_,rfl,fun j hj=>by omega⟩
 case round=>
  obtain⟨p,hp,rfl,hall⟩:=hrel;have H:=ae hall;clear hall;by_cases hlp:p<2
  ·have hix:=idx2 (m.part n) p hlp;cases gc:m.checkPart (m.part n p) (m.stamp n)==0
   ·have gn:m.checkPart (m.part n p) (m.stamp n)≠0:=by simpa using gc
    have GN:=ae gn;clear gn;go_wp2_with(go_at_call 223;refine(eL _ m _ _ _ (hm.below (aB hb1) hl)).mono ?_;rintro e w' ⟨rfl,rfl⟩);go_ret;exact⟨az (by rw[ac E];exact(Img.firstNZ_at (f:=fun p=>m.checkPart (m.part n p) (m.stamp n)) (ac GN) (ac H) hlp).symm),aB hb1⟩
   ·have gz:m.checkPart (m.part n p) (m.stamp n)=0:=by simpa using gc
    have GZ:=ae gz;clear gz;go_wp2_with(go_at_call 223;refine(eL _ m _ _ _ (hm.below (aB hb1) hl)).mono ?_;rintro e w' ⟨rfl,rfl⟩);go_round
    case rel=>exact⟨p+1,om_,by go_num,aQ (ac H) (ac GZ)⟩
    case measure=>simp[intOf];omega
  ·have e:p=2:=om_;subst e;go_wp2;go_ret;exact⟨az (by rw[ac E];exact(Img.firstNZ_zero (ac H)).symm),aB hb1⟩
theorem inode_any (b:Nat)(m:Img)(n:Nat)(hn:n<8)(w:World)(hm:aP w b m):
 Calls Tryz.prog 193 #[.pointer (some ⟨b,0,none⟩),.int .i64 n] w fun e w'=>e=.returned (.int .i64 (m.checkInode n))∧Below w.heap.size w w':=by
 cases h:m.live n
 ·exact inode_dead b m n hn w hm h
 ·by_cases h1:m.stamp n<1∨m.links n<m.refs n
  ·exact inode_count b m n hn w hm h h1
  ·exact inode_parts b m n hn w hm h om_ om_
end
section
open Go.RowKit
def cI (m:Img)(d:Nat):Int:=Img.firstNZ (fun s=>m.checkSlot d s) 4
theorem check_slots {m:Img}{d s:Nat}(hd:d<3)(hs:s<4)(h1:∀j,j<d→cI m j=0)(h2:∀j,j<s→m.checkSlot d j=0)(h:m.checkSlot d s≠0):m.check=m.checkSlot d s:=by
 have e1:cI m d=m.checkSlot d s:=Img.firstNZ_at (f:=fun s=>m.checkSlot d s) h h2 hs;have e2:Img.firstNZ (cI m) 3=cI m d:=Img.firstNZ_at (by rw[e1];exact h) h1 hd;have e3:Img.firstNZ (fun d=>Img.firstNZ (fun s=>m.checkSlot d s) 4) 3=m.checkSlot d s:=e2.trans e1;unfold Img.check;rw[e3,if_pos h]
theorem check_inodes {m:Img}{n:Nat}(hn:n<8)(h1:∀j,j<3→cI m j=0)(h2:∀j,j<n→m.checkInode j=0)(h:m.checkInode n≠0):m.check=m.checkInode n:=by
 have e3:Img.firstNZ (fun d=>Img.firstNZ (fun s=>m.checkSlot d s) 4) 3=0:=Img.firstNZ_zero (f:=cI m) h1;have e4:Img.firstNZ (fun n=>m.checkInode n) 8=m.checkInode n:=Img.firstNZ_at (f:=fun n=>m.checkInode n) h h2 hn;unfold Img.check;rw[e3,if_neg sp_,e4,if_pos h]
theorem check_end {m:Img}(h1:∀j,j<3→cI m j=0)(h2:∀j,j<8→m.checkInode j=0):m.check=if m.stampTwice||m.dataTwice then 11 else 0:=by
 have e3:Img.firstNZ (fun d=>Img.firstNZ (fun s=>m.checkSlot d s) 4) 3=0:=Img.firstNZ_zero (f:=cI m) h1;have e4:Img.firstNZ (fun n=>m.checkInode n) 8=0:=Img.firstNZ_zero (f:=fun n=>m.checkInode n) h2;unfold Img.check;rw[e3,if_neg sp_,e4,if_neg sp_]
theorem check_any (b:Nat)(m:Img)(w:World)(hm:aP w b m):
 Calls Tryz.prog 144 #[.pointer (some ⟨b,0,none⟩)] w fun e w'=>e=.returned (.int .i64 m.check)∧Below w.heap.size w w':=by
 have hl:=hm.lt;go_enter Tryz.func144,Tryz.ntmps144;go_wp2;go_loopw [8] (fun i wr=>∃d:Nat,d≤3∧i=.int .i64 d∧Below w.heap.size w wr∧∀j,j<d→cI m j=0) (fun i _=>3-(intOf i).toNat)
 case atStart=>exact⟨0,om_,rfl,gX _ _,fun j hj=>by omega⟩
 case round=>
  obtain⟨d,hd,rfl,hbr,hall⟩:=hrel;have H:=ae hall;clear hall;have hsz:=hbr.size;by_cases hlt:d<3
  ·have hd3:decide ((d:Int)<3)=true:=by simp;omega
   go_wp2;go_loopw [11] (fun i wr=>∃s:Nat,s≤4∧i=.int .i64 s∧Below w.heap.size w wr∧∀j,j<s→m.checkSlot d j=0) (fun i _=>4-(intOf i).toNat)
   case atStart=>exact⟨0,om_,rfl,hbr,fun j hj=>by omega⟩
   case round=>
    clear hbr hsz;obtain⟨s,hs,rfl,hbr,hall⟩:=hrel;have H2:=ae hall;clear hall;have hsz:=hbr.size;by_cases hls:s<4
    ·have hmr:=hm.below hbr hl;cases gc:m.checkSlot d s==0
     ·have GN:=ae (show m.checkSlot d s≠0 by simpa using gc);go_wp2_with(go_at_call 192;refine(slot_any _ m _ _ hlt hls _ hmr).mono ?_;rintro e w' ⟨rfl,hb⟩);go_ret;exact⟨az (check_slots hlt hls (ac H) (ac H2) (ac GN)).symm,hbr.trans (hb.mono hsz)⟩
     ·have GZ:=ae (show m.checkSlot d s=0 by simpa using gc);go_wp2_with(go_at_call 192;refine(slot_any _ m _ _ hlt hls _ hmr).mono ?_;rintro e w' ⟨rfl,hb⟩);go_roundw
      case rel=>exact⟨s+1,om_,by go_num,hbr.trans (hb.mono hsz),aQ (ac H2) (ac GZ)⟩
      case measure=>simp[intOf];omega
    ·have e:s=4:=om_;subst e;go_wp2;go_roundw
     case rel=>exact⟨d+1,om_,by go_num,hbr,aQ (ac H) (Img.firstNZ_zero (ac H2))⟩
     case measure=>simp[intOf];omega
  ·have hd3:decide ((d:Int)<3)=false:=by simp;omega
   have HD:=ae (show d=3 by omega);have H3:=ae (show ∀j,j<3→cI m j=0 from fun j hj=>ac H j om_);clear H HD;have H:=H3;clear H3;go_wp2;go_loopw [23] (fun i wr=>∃n:Nat,n≤8∧i=.int .i64 n∧Below w.heap.size w wr∧∀j,j<n→m.checkInode j=0) (fun i _=>8-(intOf i).toNat)
   case atStart=>exact⟨0,om_,rfl,hbr,fun j hj=>by omega⟩
   case round=>
    clear hbr hsz;obtain⟨n,hn,rfl,hbr,hall⟩:=hrel;have H2:=ae hall;clear hall;have hsz:=hbr.size;have hmr:=hm.below hbr hl;by_cases hln:n<8
    ·cases gc:m.checkInode n==0
     ·have GN:=ae (show m.checkInode n≠0 by simpa using gc);go_wp2_with(go_at_call 193;refine(inode_any _ m _ hln _ hmr).mono ?_;rintro e w' ⟨rfl,hb⟩);go_ret;exact⟨az (check_inodes hln (ac H) (ac H2) (ac GN)).symm,hbr.trans (hb.mono hsz)⟩
     ·have GZ:=ae (show m.checkInode n=0 by simpa using gc);go_wp2_with(go_at_call 193;refine(inode_any _ m _ hln _ hmr).mono ?_;rintro e w' ⟨rfl,hb⟩);go_roundw
      case rel=>exact⟨n+1,om_,by go_num,hbr.trans (hb.mono hsz),aQ (ac H2) (ac GZ)⟩
      case measure=>simp[intOf];omega
    ·have e:n=8:=om_;subst e;have E0:=check_end (ac H) (ac H2);cases gs:m.stampTwice
     ·cases gd:m.dataTwice
      ·have E:=ae (show m.check=0 by rw[E0,gs,gd];rfl);clear E0;go_wp2_with(first|(go_at_call 194;refine(da _ m _ hmr).mono ?_;rw[gs];rintro e w1 ⟨rfl,q,rfl⟩)|(go_at_call 195;refine(eJ _ m _ (hmr.below (aB (gX _ _)) hmr.lt)).mono ?_;rw[gd];rintro e w2 ⟨rfl,hb2⟩));go_ret;exact⟨az (ac E).symm,(aB hbr).trans (hb2.mono hsz)⟩
      ·have E:=ae (show m.check=11 by rw[E0,gs,gd];rfl);clear E0;go_wp2_with(first|(go_at_call 194;refine(da _ m _ hmr).mono ?_;rw[gs];rintro e w1 ⟨rfl,q,rfl⟩)|(go_at_call 195;refine(eJ _ m _ (hmr.below (aB (gX _ _)) hmr.lt)).mono ?_;rw[gd];rintro e w2 ⟨rfl,hb2⟩));go_ret;exact⟨az (ac E).symm,(aB hbr).trans (hb2.mono hsz)⟩
     ·have E:=ae (show m.check=11 by rw[E0,gs];rfl);clear E0;go_wp2_with(go_at_call 194;refine(da _ m _ hmr).mono ?_;rw[gs];rintro e w1 ⟨rfl,q,rfl⟩);go_ret;exact⟨az (ac E).symm,aB hbr⟩
end
section
open Go.RowKit
structure ag (cs:Array Value)(m:Img):Prop where
 size:cs.size=94
 live:∀n:Nat,n<8→cs[n*5]? =some (.bool (m.live n))
 stamp:∀n:Nat,n<8→cs[n*5+1]? =some (.int .i64 (m.stamp n))
 links:∀n:Nat,n<8→cs[n*5+2]? =some (.int .i64 (m.links n))
 part:∀n p:Nat,n<8→p<2→cs[n*5+3+p]? =some (.int .i64 (m.part n p))
 name:∀d s:Nat,d<3→s<4→cs[40+d*12+s*3]? =some (.string (m.name d s))
 ino:∀d s:Nat,d<3→s<4→cs[40+d*12+s*3+1]? =some (.int .i64 (m.ino d s))
 est:∀d s:Nat,d<3→s<4→cs[40+d*12+s*3+2]? =some (.int .i64 (m.est d s))
 of:∀x:Nat,x<9→cs[76+x*2]? =some (.int .i64 (m.of x))
 text:∀x:Nat,x<9→cs[76+x*2+1]? =some (.string (m.text x))
 small:∀d s:Nat,(m.name d s).size≤maxLen
 short:∀x:Nat,(m.text x).size≤maxLen
theorem ag.has {cs:Array Value}{m:Img}(h:ag cs m)(w:World)(t:TypeId):aP (w.alloc (.cells cs t)) w.heap.size m:=by
 have hc:∀i,(w.alloc (.cells cs t)).cell? ⟨w.heap.size,i,none⟩=cs[i]? :=fun i=>World.cell?_alloc_new w cs t i
 exact⟨sp_,fun n h1=>by rw[hc];exact h.live n h1,fun n h1=>by rw[hc];exact h.stamp n h1,fun n h1=>by rw[hc];exact h.links n h1,
  fun n p h1 h2=>by rw[hc];exact h.part n p h1 h2,fun d s h1 h2=>by rw[hc];exact h.name d s h1 h2,fun d s h1 h2=>by rw[hc];exact h.ino d s h1 h2,
  fun d s h1 h2=>by rw[hc];exact h.est d s h1 h2,fun x h1=>by rw[hc];exact h.of x h1,fun x h1=>by rw[hc];exact h.text x h1,h.small,h.short⟩
end
section
open Go.RowKit
theorem ce (w:World):
 Calls Tryz.prog 47 #[] w fun e w'=>e=.returned (.agg #[.bool false,.int .i64 0,.int .i64 0,.int .i64 (-1),.int .i64 (-1)])∧Below w.heap.size w w':=by
 go_enter Tryz.func47,Tryz.ntmps47;go_wp2;refine wp_loop_rounds 3 ?_;rw[rounds_succ];go_wp2;rw[rounds_succ];go_wp2;rw[rounds_succ];go_wp2;exact bodyPost_ret (v:=.agg #[.bool false,.int .i64 0,.int .i64 0,.int .i64 (-1),.int .i64 (-1)]) (by simp[results,Tryz.results47,go_sem]) rfl ⟨rfl,((gX _ _).alloc (gY _) _).alloc sp_ _⟩
def inodeZ:List Value:=[.bool false,.int .i64 0,.int .i64 0,.int .i64 0,.int .i64 0]
def entryZ:List Value:=[.string ⟨#[]⟩,.int .i64 0,.int .i64 0]
def dataZ:List Value:=[.int .i64 0,.string ⟨#[]⟩]
def times (n:Nat)(l:List Value):List Value:=match n with
 |0=>[]
 |n+1=>l++times n l
def af:Array Value:=(times 8 inodeZ++times 12 entryZ++times 9 dataZ).toArray
def put5 (cs:Array Value)(n:Nat):Array Value:=((((cs.setIfInBounds (n*5) (.bool false)).setIfInBounds (n*5+1) (.int .i64 0)).setIfInBounds (n*5+1+1) (.int .i64 0)).setIfInBounds (n*5+1+1+1) (.int .i64 (-1))).setIfInBounds (n*5+1+1+1+1) (.int .i64 (-1))
def de:Nat→Array Value
 |0=>af
 |n+1=>put5 (de n) n
def aw:Array Value:=de 8
theorem am:∀n,(de n).size=94
 |0=>by decide+kernel
 |n+1=>by simp[de,put5,am n]
theorem ax:(∀w,(zeroValue 78).run Tryz.prog w=.ok (.agg af) w)∧(Tryz.prog.info? 78).map (·.size)=some 94:=zero_of_info kr_
structure Two (w wr:World)(g:Nat)(c0 c1:Array Value):Prop where
 below:Below w.heap.size w wr
 gt:w.heap.size<g
 size:g<wr.heap.size
 b0:wr.heap[w.heap.size]? =some (.cells c0 78)
 b1:wr.heap[g]? =some (.cells c1 78)
theorem Two.start (w:World)(c0 c1:Array Value):Two w ((w.alloc (.cells c0 78)).alloc (.cells c1 78)) (w.heap.size+1) c0 c1:=
 ⟨((gX _ _).alloc (gY _) _).alloc sp_ _,sp_,sp_,heap_alloc2_old _ _ _,heap_alloc2_new _ _ _⟩
theorem Two.call {w wr w1:World}{g:Nat}{c0 c1:Array Value}(h:Two w wr g c0 c1)(hb:Below wr.heap.size wr w1):Two w w1 g c0 c1:=
 have:=h.size
 have:=h.gt
 have:=hb.size
 ⟨h.below.trans (hb.mono om_),h.gt,om_,by rw[hb.block _ om_];exact h.b0,by rw[hb.block _ om_];exact h.b1⟩
theorem Two.set {w wr:World}{g:Nat}{c0 c1:Array Value}(h:Two w wr g c0 c1)(i:Nat)(v:Value):Two w (wr.setCell ⟨g,i,none⟩ v) g c0 (c1.setIfInBounds i v):=
 have:=h.gt
 ⟨h.below.setCell (by simp;omega) _,h.gt,by simpa using h.size,by rw[heap_setCell_other _ _ _ _ (by simp;omega)];exact h.b0,heap_setCell_same _ _ _ _ _ _ h.b1⟩
theorem Two.cell {w wr:World}{g:Nat}{c0 c1:Array Value}(h:Two w wr g c0 c1){i:Nat}(hi:i<c1.size):∃v,wr.cell? ⟨g,i,none⟩=some v:=
 ⟨c1[i],by rw[iW _ _ _ _ _ _ h.b1];simp[hi]⟩
theorem Two.frozen {w wr:World}{g:Nat}{c0 c1:Array Value}(h:Two w wr g c0 c1)(i:Nat):wr.frozen? ⟨g,i,none⟩=false:=frozen_of_row _ _ _ _ _ h.b1
theorem Two.put5 {w wr:World}{g:Nat}{c0 c1:Array Value}(h:Two w wr g c0 c1)(n:Nat):
 Two w (((((wr.setCell ⟨g,n*5,none⟩ (.bool false)).setCell ⟨g,n*5+1,none⟩ (.int .i64 0)).setCell ⟨g,n*5+1+1,none⟩ (.int .i64 0)).setCell ⟨g,n*5+1+1+1,none⟩ (.int .i64 (-1))).setCell ⟨g,n*5+1+1+1+1,none⟩ (.int .i64 (-1))) g c0 (put5 c1 n):=
 ((((h.set _ _).set _ _).set _ _).set _ _).set _ _
theorem ah {B:Nat}{a w:World}(h:Below B a w){g:Nat}(hg:B≤g)(cs:Array Value):Below B a (w.setRow g cs):=
 h.trans ⟨rfl,rfl,rfl,sp_,fun k hk=>setRow_other w g k cs om_⟩
theorem Two.row {w wr:World}{g:Nat}{c0 c1:Array Value}(h:Two w wr g c0 c1)(c:Array Value):Two w (wr.setRow g c) g c0 c:=
 have:=h.gt
 ⟨ah h.below om_ _,h.gt,by simpa using h.size,by rw[setRow_other _ _ _ _ om_];exact h.b0,setRow_heap _ _ _ _ _ _ h.b1⟩
theorem new_any (w:World):
 Calls Tryz.prog 71 #[] w fun e w'=>e=.returned (.agg aw)∧Below w.heap.size w w':=by
 have z:=ax.1;go_enter Tryz.func71,Tryz.ntmps71;go_wp2;go_loopw [3] (fun i wr=>∃n:Nat,n≤8∧i=.int .i64 n∧Two w wr (w.heap.size+1) af (de n)) (fun i _=>8-(intOf i).toNat)
 case atStart=>exact⟨0,om_,rfl,Two.start _ _ _⟩
 case round=>
  obtain⟨n,hn,rfl,ht⟩:=hrel;by_cases hlt:n<8
  ·go_wp2_with(go_at_call 101;refine(di _).mono ?_;rintro e w1 ⟨rfl,hb1⟩;have ht1:=ht.call hb1;obtain⟨v0,f0⟩:=ht1.cell (i:=n*5) (by rw[am];omega);obtain⟨v1,f1⟩:=ht1.cell (i:=n*5+1) (by rw[am];omega);obtain⟨v2,f2⟩:=ht1.cell (i:=n*5+1+1) (by rw[am];omega);obtain⟨v3,f3⟩:=ht1.cell (i:=n*5+1+1+1) (by rw[am];omega);obtain⟨v4,f4⟩:=ht1.cell (i:=n*5+1+1+1+1) (by rw[am];omega);have fz:=ht1.frozen);go_roundw
   case rel=>exact⟨n+1,om_,by go_num,ht1.put5 n⟩
   case measure=>simp[intOf];omega
  ·have e:n=8:=om_;subst e;have hu:Tryz.prog.underlying 78=some (.struct (Tryz.prog.fieldsOf 78)):=kr_;have hi:(Tryz.prog.info? 78).map (·.size)=some (de 8).size:=by rw[am];exact ax.2
   have hz:af.size=(de 8).size:=by rw[am];exact am 0
   have h1:(de 8).all (·.oneCell')=true:=kr_;go_wp2_with(first|(refine wpList_load_row rfl 78 _ rfl (w.heap.size+1) rfl 78 (de 8) (0,0) _ ht.b1 hu rfl hi ?_)|(refine wpList_store_row rfl 78 _ _ rfl w.heap.size (de 8) rfl rfl 78 af ht.b0 hi hz h1 ?_));refine bodyPost_ret (v:=.agg aw) ?_ rfl ⟨rfl,ah ht.below (gY _) _⟩;exact results_cell_row (P:=Tryz.prog) Tryz.results71 _ _ w.heap.size 78 aw (0,0) _ rfl (setRow_heap _ _ _ _ _ _ ht.b0) hu rfl hi
theorem ak:Tryz.prog.underlying 78=some (.struct (Tryz.prog.fieldsOf 78)):=kr_
theorem new_all:(de 8).all (·.oneCell')=true:=kr_
theorem zero_all:af.all (·.oneCell')=true:=kr_
theorem aj {cs:Array Value}(h:cs.size=94):(Tryz.prog.info? 78).map (·.size)=some cs.size:=by rw[h];exact ax.2
theorem eA (w:World):(Instr.build 78 #[]).run Tryz.prog w=.ok (.agg af) w:=run_build w 78 _ _ kr_
theorem blank_any (w:World):
 Calls Tryz.prog 25 #[] w fun e w'=>e=.returned (.agg aw)∧Below w.heap.size w w':=by
 have z:=ax.1;have bld:=eA;have hz0:=aj (am 0);have ht0:=Two.start w af af;have HT:=ae ht0;clear ht0;go_enter Tryz.func25,Tryz.ntmps25;go_wp2_with(refine wpList_store_row rfl 78 _ _ rfl (w.heap.size+1) af rfl rfl 78 af (ac HT).b1 hz0 rfl zero_all ?_);go_loopw [2] (fun i wr=>∃n:Nat,n≤8∧i=.int .i64 n∧Two w wr (w.heap.size+1) af (de n)) (fun i _=>8-(intOf i).toNat)
 case atStart=>exact⟨0,om_,rfl,(Two.start w af af).row _⟩
 case round=>
  obtain⟨n,hn,rfl,ht⟩:=hrel;by_cases hlt:n<8
  ·go_wp2_with(go_at_call 47;refine(ce _).mono ?_;rintro e w1 ⟨rfl,hb1⟩;have ht1:=ht.call hb1;obtain⟨v0,f0⟩:=ht1.cell (i:=n*5) (by rw[am];omega);obtain⟨v1,f1⟩:=ht1.cell (i:=n*5+1) (by rw[am];omega);obtain⟨v2,f2⟩:=ht1.cell (i:=n*5+1+1) (by rw[am];omega);obtain⟨v3,f3⟩:=ht1.cell (i:=n*5+1+1+1) (by rw[am];omega);obtain⟨v4,f4⟩:=ht1.cell (i:=n*5+1+1+1+1) (by rw[am];omega);have fz:=ht1.frozen);go_roundw
   case rel=>exact⟨n+1,om_,by go_num,ht1.put5 n⟩
   case measure=>simp[intOf];omega
  ·have e:n=8:=om_;subst e;have hi:=aj (am 8);have hz:af.size=(de 8).size:=by rw[am];exact am 0
   go_wp2_with(first|(refine wpList_load_row rfl 78 _ rfl (w.heap.size+1) rfl 78 (de 8) (0,0) _ ht.b1 ak rfl hi ?_)|(refine wpList_store_row rfl 78 _ _ rfl w.heap.size (de 8) rfl rfl 78 af ht.b0 hi hz new_all ?_));refine bodyPost_ret (v:=.agg aw) ?_ rfl ⟨rfl,ah ht.below (gY _) _⟩;exact results_cell_row (P:=Tryz.prog) Tryz.results25 _ _ w.heap.size 78 aw (0,0) _ rfl (setRow_heap _ _ _ _ _ _ ht.b0) ak rfl hi
end
section
open Go.RowKit
theorem bY:aw.size=94:=am 8
theorem blank_all:aw.all (·.oneCell')=true:=new_all
end
section
open Go.RowKit
def bOf:Value→Bool|.bool b=>b|_=>false
def sOf:Value→ByteArray|.string s=>s|_=>⟨#[]⟩
def imgOf (cs:Array Value):Img where
 live n:=bOf (cs.getD (n*5) undef)
 stamp n:=intOf (cs.getD (n*5+1) undef)
 links n:=intOf (cs.getD (n*5+2) undef)
 part n p:=intOf (cs.getD (n*5+3+p) undef)
 name d s:=sOf (cs.getD (40+d*12+s*3) undef)
 ino d s:=intOf (cs.getD (40+d*12+s*3+1) undef)
 est d s:=intOf (cs.getD (40+d*12+s*3+2) undef)
 of x:=intOf (cs.getD (76+x*2) undef)
 text x:=sOf (cs.getD (76+x*2+1) undef)
def isB:Value→Bool|.bool _=>true|_=>false
def isN:Value→Bool|.int .i64 _=>true|_=>false
def isS:Value→Bool|.string _=>true|_=>false
def dg (i:Nat)(v:Value):Bool:=
 if i<40 then(if i%5=0 then isB v else isN v)else if i<76 then(if(i-40)%3=0 then isS v else isN v)else(if(i-76)%2=0 then isN v else isS v)
theorem of_isB {v:Value}(h:isB v=true):v=.bool (bOf v):=by cases v<;>first|rfl|cases h
theorem fw {v:Value}(h:isN v=true):v=.int .i64 (intOf v):=by
 cases v<;>first|cases h|skip
 rename_i k n
 cases k<;>first|rfl|cases h
theorem of_isS {v:Value}(h:isS v=true):v=.string (sOf v):=by cases v<;>first|rfl|cases h
structure Kinds (cs:Array Value):Prop where
 size:cs.size=94
 kind:∀i,i<94→dg i (cs.getD i undef)=true
 short:∀i,(sOf (cs.getD i undef)).size≤maxLen
theorem Kinds.get {cs:Array Value}(h:Kinds cs){i:Nat}(hi:i<94):cs[i]? =some (cs.getD i undef):=by
 have:i<cs.size:=by rw[h.size];exact hi
 simp[Array.getD,this]
theorem Kinds.isImg {cs:Array Value}(h:Kinds cs):ag cs (imgOf cs):=by
 refine⟨h.size,?_,?_,?_,?_,?_,?_,?_,?_,?_,fun d s=>h.short _,fun x=>h.short _⟩
 ·intro n hn;have k:=h.kind (n*5) om_;rw[dg,if_pos om_,if_pos om_]at k;rw[h.get om_,of_isB k];rfl
 ·intro n hn;have k:=h.kind (n*5+1) om_;rw[dg,if_pos om_,if_neg om_]at k;rw[h.get om_,fw k];rfl
 ·intro n hn;have k:=h.kind (n*5+2) om_;rw[dg,if_pos om_,if_neg om_]at k;rw[h.get om_,fw k];rfl
 ·intro n p hn hp;have k:=h.kind (n*5+3+p) om_;rw[dg,if_pos om_,if_neg om_]at k;rw[h.get om_,fw k];rfl
 ·intro d s hd hs;have k:=h.kind (40+d*12+s*3) om_;rw[dg,if_neg om_,if_pos om_,if_pos om_]at k;rw[h.get om_,of_isS k];rfl
 ·intro d s hd hs;have k:=h.kind (40+d*12+s*3+1) om_;rw[dg,if_neg om_,if_pos om_,if_neg om_]at k;rw[h.get om_,fw k];rfl
 ·intro d s hd hs;have k:=h.kind (40+d*12+s*3+2) om_;rw[dg,if_neg om_,if_pos om_,if_neg om_]at k;rw[h.get om_,fw k];rfl
 ·intro x hx;have k:=h.kind (76+x*2) om_;rw[dg,if_neg om_,if_neg om_,if_pos om_]at k;rw[h.get om_,fw k];rfl
 ·intro x hx;have k:=h.kind (76+x*2+1) om_;rw[dg,if_neg om_,if_neg om_,if_neg om_]at k;rw[h.get om_,of_isS k];rfl
def kindsB (cs:Array Value):Bool:=(List.range 94).all fun i=>dg i (cs.getD i undef)&&decide ((sOf (cs.getD i undef)).size≤1000)
theorem Kinds.of {cs:Array Value}(hs:cs.size=94)(h:kindsB cs=true):Kinds cs:=by
 have h':=iL.1 h;refine⟨hs,fun i hi=>?_,fun i=>?_⟩
 ·have:=h' i (iH.2 hi);rw[ik]at this;exact this.1
 ·by_cases hi:i<94
  ·have:=h' i (iH.2 hi);rw[ik,decide_eq_true_eq]at this;have:=this.2;unfold maxLen;omega
  ·have:cs.getD i undef=undef:=by simp[Array.getD,hs,hi]
   rw[this];show(0:Nat)≤maxLen;exact hZ _
end
section
open Go.RowKit
theorem cE {w:World}{g:Nat}{cs:Array Value}{m:Img}(hg:w.heap[g]? =some (.cells cs 78))(h:ag cs m):aP w g m:=by
 have hlt:g<w.heap.size:=(gW.1 hg).1;have hc:∀i,w.cell? ⟨g,i,none⟩=cs[i]? :=fun i=>iW _ _ _ _ _ _ hg
 exact⟨hlt,fun n h1=>by rw[hc];exact h.live n h1,fun n h1=>by rw[hc];exact h.stamp n h1,fun n h1=>by rw[hc];exact h.links n h1,
  fun n p h1 h2=>by rw[hc];exact h.part n p h1 h2,fun d s h1 h2=>by rw[hc];exact h.name d s h1 h2,fun d s h1 h2=>by rw[hc];exact h.ino d s h1 h2,
  fun d s h1 h2=>by rw[hc];exact h.est d s h1 h2,fun x h1=>by rw[hc];exact h.of x h1,fun x h1=>by rw[hc];exact h.text x h1,h.small,h.short⟩
end
section
open Go.RowKit
theorem cM (x:Int)(w:World):
 Calls Tryz.prog 232 #[.int .i64 x] w fun e w'=>e=.returned (.bool (Img.isD x))∧w'=w:=by
 go_enter Tryz.func232,Tryz.ntmps232;go_wp2;all_goals
  go_ret
  refine⟨av ?_,rfl⟩
  simp[Img.isD]
  try omega
theorem a_ (x:Int)(w:World):
 Calls Tryz.prog 216 #[.int .i64 x] w fun e w'=>e=.returned (.bool (Img.isI x))∧w'=w:=by
 go_enter Tryz.func216,Tryz.ntmps216;go_wp2;all_goals
  go_ret
  refine⟨av ?_,rfl⟩
  simp[Img.isI]
  try omega
def bq (b:Int):ByteArray:=if Img.inB b=false then⟨#[]⟩else if b<2 then⟨#[105,110,111,100,101,115]⟩else if b<5 then⟨#[100,105,114]⟩else⟨#[100,97,116,97]⟩
def br (b:Int):Int:=if Img.inB b=false then 0 else if b<2 then b*4 else if b<5 then b-2 else b-5
theorem cO {b:Int}(h:Img.inB b=false):bq b=⟨#[]⟩∧br b=0:=⟨if_pos h,if_pos h⟩
theorem bU {k:Nat}(h:k<2):bq (k:Int)=⟨#[105,110,111,100,101,115]⟩∧br (k:Int)=k*4:=by
 have e:Img.inB (k:Int)=true:=by simp[Img.inB];omega
 unfold bq br;rw[e,if_neg sp_,if_pos om_,if_neg sp_,if_pos om_];exact⟨rfl,rfl⟩
theorem dB {d:Nat}(h:d<3):bq ((d+2:Nat):Int)=⟨#[100,105,114]⟩∧br ((d+2:Nat):Int)=(d:Nat):=by
 have e:Img.inB ((d+2:Nat):Int)=true:=by simp[Img.inB];omega
 unfold bq br;rw[e,if_neg sp_,if_neg om_,if_pos om_,if_neg sp_,if_neg om_,if_pos om_];exact⟨rfl,om_⟩
theorem cW {x:Nat}(h:x<9):bq ((x+5:Nat):Int)=⟨#[100,97,116,97]⟩∧br ((x+5:Nat):Int)=(x:Nat):=by
 have e:Img.inB ((x+5:Nat):Int)=true:=by simp[Img.inB];omega
 unfold bq br;rw[e,if_neg sp_,if_neg om_,if_neg om_,if_neg sp_,if_neg om_,if_neg om_];exact⟨rfl,om_⟩
theorem bP (b:Int)(w:World):
 Calls Tryz.prog 125 #[.int .i64 b] w fun e w'=>e=.returned (.tuple #[.string (bq b),.int .i64 (br b)])∧w'=w:=by
 rcases Img.blocks b with h|⟨k,hk,rfl⟩|⟨d,hd,rfl⟩|⟨x,hx,rfl⟩
 ·obtain⟨e1,e2⟩:=cO h;rw[e1,e2];clear e1 e2;have hb:b<0∨14≤b:=by
   simp[Img.inB]at h;omega
  clear h;by_cases h0:b<0
  ·clear hb;go_enter Tryz.func125,Tryz.ntmps125;go_wp2;go_ret2;exact⟨rfl,rfl⟩
  ·have h1:14≤b:=om_;clear hb;go_enter Tryz.func125,Tryz.ntmps125;go_wp2;go_ret2;exact⟨rfl,rfl⟩
 ·obtain⟨e1,e2⟩:=bU hk;rw[e1,e2];clear e1 e2;go_enter Tryz.func125,Tryz.ntmps125;go_wp2;go_ret2;exact⟨rfl,rfl⟩
 ·obtain⟨e1,e2⟩:=dB hd;rw[e1,e2];clear e1 e2;go_enter Tryz.func125,Tryz.ntmps125;go_wp2;go_ret2;exact⟨by go_num,rfl⟩
 ·obtain⟨e1,e2⟩:=cW hx;rw[e1,e2];clear e1 e2;go_enter Tryz.func125,Tryz.ntmps125;go_wp2;go_ret2;exact⟨by go_num,rfl⟩
end
end Go.Proofs.YtfpfpnhpbnnmfadGreatDoor
