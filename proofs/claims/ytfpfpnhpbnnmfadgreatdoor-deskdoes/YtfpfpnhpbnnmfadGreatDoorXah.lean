import Derived.Test.YtfpfpnhpbnnmfadGreatDoorXaa
import Derived.Test.YtfpfpnhpbnnmfadGreatDoorXag
import Derived.RegionTactic
import Derived.BigRegion
import Derived.ChangeAlike
set_option maxHeartbeats 40000000
set_option maxRecDepth 100000
namespace Go.Proofs.YtfpfpnhpbnnmfadGreatDoor
section
open Go.RowKit
structure PRow (m k:Img)(n p:Nat)(c:Array Value):Prop where
 size:c.size=5
 c0:c[0]? =some (.bool true)
 c1:c[1]? =some (.int .i64 (m.stamp n))
 c2:c[2]? =some (.int .i64 (Img.uni m k n:Nat))
 part:∀q,q<2→c[3+q]? =some (.int .i64 (if q<p then Img.partAs m k n q else m.part n q))
theorem PRow.put {m k:Img}{n p:Nat}{c:Array Value}(h:PRow m k n p c)(hp:p<2):PRow m k n (p+1) (c.setIfInBounds (3+p) (.int .i64 (Img.partAs m k n p))):=by
 have hs:=h.size;refine⟨by simp[hs],?_,?_,?_,fun q hq=>?_⟩
 ·rw[iw,if_neg om_];exact h.c0
 ·rw[iw,if_neg om_];exact h.c1
 ·rw[iw,if_neg om_];exact h.c2
 ·rw[iw];by_cases e:p=q
  ·subst e;rw[if_pos rfl,if_pos om_,if_pos om_]
  ·rw[if_neg om_,h.part q hq];by_cases e2:q<p
   ·rw[if_pos e2,if_pos om_]
   ·rw[if_neg e2,if_neg om_]
theorem PRow.keep {m k:Img}{n p:Nat}{c:Array Value}(h:PRow m k n p c)(e:Img.partAs m k n p=m.part n p):PRow m k n (p+1) c:=by
 refine⟨h.size,h.c0,h.c1,h.c2,fun q hq=>?_⟩;rw[h.part q hq];by_cases e1:q=p
 ·subst e1;rw[if_neg om_,if_pos om_,e]
 ·by_cases e2:q<p
  ·rw[if_pos e2,if_pos om_]
  ·rw[if_neg e2,if_neg om_]
theorem PRow.start (m k:Img)(n:Nat):PRow m k n 0 #[.bool true,.int .i64 (m.stamp n),.int .i64 (Img.uni m k n:Nat),.int .i64 (m.part n 0),.int .i64 (m.part n 1)]:=by
 refine⟨rfl,rfl,rfl,rfl,fun q hq=>?_⟩;match q,hq with
 |0,_=>rfl
 |1,_=>rfl
theorem PRow.done {m k:Img}{n:Nat}{c:Array Value}(h:PRow m k n 2 c):c= #[.bool true,.int .i64 (m.stamp n),.int .i64 (Img.uni m k n:Nat),.int .i64 (Img.partAs m k n 0),.int .i64 (Img.partAs m k n 1)]:=by
 refine ir fun j=>?_;by_cases hj:j<5
 ·match j,hj with
  |0,_=>exact h.c0
  |1,_=>exact h.c1
  |2,_=>exact h.c2
  |3,_=>exact(h.part 0 om_).trans rfl
  |4,_=>exact(h.part 1 om_).trans rfl
 ·rw[iv (by rw[h.size];omega),iv (by simp;omega)]
end
section
open Go.RowKit
structure ai (w:World)(b o:Nat)(m:Img):Prop where
 lt:b<w.heap.size
 live:∀n:Nat,n<8→w.cell? ⟨b,o+n*5,none⟩=some (.bool (m.live n))
 stamp:∀n:Nat,n<8→w.cell? ⟨b,o+n*5+1,none⟩=some (.int .i64 (m.stamp n))
 links:∀n:Nat,n<8→w.cell? ⟨b,o+n*5+2,none⟩=some (.int .i64 (m.links n))
 part:∀n p:Nat,n<8→p<2→w.cell? ⟨b,o+n*5+3+p,none⟩=some (.int .i64 (m.part n p))
 name:∀d s:Nat,d<3→s<4→w.cell? ⟨b,o+40+d*12+s*3,none⟩=some (.string (m.name d s))
 ino:∀d s:Nat,d<3→s<4→w.cell? ⟨b,o+40+d*12+s*3+1,none⟩=some (.int .i64 (m.ino d s))
 est:∀d s:Nat,d<3→s<4→w.cell? ⟨b,o+40+d*12+s*3+2,none⟩=some (.int .i64 (m.est d s))
 of:∀x:Nat,x<9→w.cell? ⟨b,o+76+x*2,none⟩=some (.int .i64 (m.of x))
 text:∀x:Nat,x<9→w.cell? ⟨b,o+76+x*2+1,none⟩=some (.string (m.text x))
 small:∀d s:Nat,(m.name d s).size≤maxLen
 short:∀x:Nat,(m.text x).size≤maxLen
theorem ai.below {w w':World}{b o:Nat}{m:Img}{B:Nat}(h:ai w b o m)(hb:Below B w w')(hB:b<B):ai w' b o m:=by
 have hc:∀o,w'.cell? ⟨b,o,none⟩=w.cell? ⟨b,o,none⟩:=fun o=>hb.cell (p:=⟨b,o,none⟩) hB
 have hs:=hb.size;have hl:=h.lt;exact⟨om_,fun n h1=>by rw[hc];exact h.live n h1,fun n h1=>by rw[hc];exact h.stamp n h1,fun n h1=>by rw[hc];exact h.links n h1,
  fun n p h1 h2=>by rw[hc];exact h.part n p h1 h2,fun d s h1 h2=>by rw[hc];exact h.name d s h1 h2,fun d s h1 h2=>by rw[hc];exact h.ino d s h1 h2,
  fun d s h1 h2=>by rw[hc];exact h.est d s h1 h2,fun x h1=>by rw[hc];exact h.of x h1,fun x h1=>by rw[hc];exact h.text x h1,h.small,h.short⟩
theorem aP.at {w:World}{b:Nat}{m:Img}(h:aP w b m):ai w b 0 m:=
 ⟨h.lt,fun n h1=>by rw[hY];exact h.live n h1,fun n h1=>by rw[hY];exact h.stamp n h1,fun n h1=>by rw[hY];exact h.links n h1,
  fun n p h1 h2=>by rw[hY];exact h.part n p h1 h2,fun d s h1 h2=>by rw[hY];exact h.name d s h1 h2,fun d s h1 h2=>by rw[hY];exact h.ino d s h1 h2,
  fun d s h1 h2=>by rw[hY];exact h.est d s h1 h2,fun x h1=>by rw[hY];exact h.of x h1,fun x h1=>by rw[hY];exact h.text x h1,h.small,h.short⟩
def Img.held (m:Img)(x:Int):Bool:=Img.anyB (fun n=>m.live n&&m.hasPart n x) 8
theorem Img.held_isD {m:Img}{x:Nat}(h:x<9):m.held x=m.holds x:=by
 unfold Img.held Img.holds;rw[show Img.isD (x:Int)=true by simp[Img.isD];omega];rfl
theorem fq {ob:Nat}(b:Nat)(m:Img)(x:Int)(w:World)(hm:ai w b ob m):
 Calls Tryz.prog 130 #[.pointer (some ⟨b,ob,none⟩),.int .i64 x] w fun e w'=>e=.returned (.bool (m.held x))∧w'=w:=by
 have E:m.held x=Img.anyB (fun n=>m.live n&&m.hasPart n x) 8:=rfl;have HE:=ae E;clear E;go_enter Tryz.func130,Tryz.ntmps130;go_wp2_with fail;go_loop [5] (fun i=>∃k:Nat,k≤8∧i=.int .i64 k∧∀j,j<k→(m.live j&&m.hasPart j x)=false) (fun i=>8-(intOf i).toNat)
 case atStart=>exact⟨0,om_,rfl,fun j hj=>by omega⟩
 case round=>
  obtain⟨k,hk,rfl,hall⟩:=hrel;have H:=ae hall;clear hall;by_cases hlt:k<8
  ·have t8:decide ((k:Int)<8)=true:=by simp;omega
   have hlv:=hm.live k hlt;have hp0:=hm.part k 0 hlt om_;have hp1:=hm.part k 1 hlt om_;have S:=ae (show(m.live k&&m.hasPart k x)=false→∀j,j<k+1→(m.live j&&m.hasPart j x)=false from fun h j hj=>by
    by_cases e:j=k
    ·subst e;exact h
    ·exact ac H j om_)
   have Y:=ae (show(m.live k&&m.hasPart k x)=true→m.held x=true from fun h=>by rw[ac HE];exact Img.anyB_true hlt h);have hpt:=hm.part k;have P:=ae (show m.hasPart k x=(m.part k 0==x||m.part k 1==x)from rfl);go_wp2_with fail;go_loop [6] (fun i=>∃p:Nat,p≤2∧i=.int .i64 p∧(m.live k=false∨∀q,q<p→(m.part k q==x)=false)) (fun i=>2-(intOf i).toNat)
   case atStart=>exact⟨0,om_,rfl,.inr fun q hq=>by omega⟩
   case round=>
    obtain⟨p,hp,rfl,hq⟩:=hrel;have HQ:=ae hq;clear hq;by_cases hlp:p<2
    ·have t2:decide ((p:Int)<2)=true:=by simp;omega
     have hpp:=hpt p hlt hlp;clear hpt hp0 hp1;cases hl:m.live k
     ·rw[hl]at hlv;go_wp2_with fail;exact⟨⟨p+1,om_,by go_num,by first|exact .inl hl|exact .inl trivial⟩,by simp[intOf];omega⟩
     ·rw[hl]at hlv;cases he:(m.part k p==x)
      ·go_wp2_with fail;refine⟨⟨p+1,om_,by go_num,.inr fun q hq=>?_⟩,by simp[intOf];omega⟩;by_cases e:q=p
       ·subst e;exact he
       ·rcases ac HQ with z|z
        ·rw[hl]at z;cases z
        ·exact z q om_
      ·have Z:=ae (ac Y (by
        rw[hl,ac P];match p,hlp with
        |0,_=>rw[he];rfl
        |1,_=>rw[he];simp))
       go_wp2_with fail;go_ret;exact⟨av (ac Z).symm,rfl⟩
    ·have t2:decide ((p:Int)<2)=false:=by simp;omega
     go_wp2_with fail;refine⟨⟨k+1,om_,by go_num,ac S ?_⟩,by simp[intOf];omega⟩;rcases ac HQ with z|z
     ·rw[z];rfl
     ·rw[ac P,z 0 om_,z 1 om_];simp
  ·have t8:decide ((k:Int)<8)=false:=by simp;omega
   go_wp2_with fail;go_ret;exact⟨av (by rw[ac HE];exact(Img.anyB_false.2 fun j hj=>ac H j om_).symm),rfl⟩
end
end Go.Proofs.YtfpfpnhpbnnmfadGreatDoor
