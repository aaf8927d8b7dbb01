import Derived.Test.YtfpfpnhpbnnmfadGreatDoorXaa
import Derived.Test.YtfpfpnhpbnnmfadGreatDoorXae
import Derived.RegionTactic
import Derived.BigRegion
import Derived.ChangeAlike
namespace Go.Proofs.YtfpfpnhpbnnmfadGreatDoor
section
open Go.RowKit
theorem eqEnt (na:ByteArray)(ia sa:Int)(nb:ByteArray)(ib sb:Int)(w:World):(binOp .eql 71 (.agg #[.string na,.int .i64 ia,.int .i64 sa]) (.agg #[.string nb,.int .i64 ib,.int .i64 sb])).run Tryz.prog w=.ok (.bool (na.toList==nb.toList&&ia==ib&&sa==sb)) w:=by
 have u1:=Tryz.underlying3;have u2:=Tryz.underlying9;go_simp;cases h1:na.toList==nb.toList<;>cases h2:ia==ib<;>cases h3:sa==sb<;>simp_all
def cl (e:Ent):Array Value:= #[.string e.name,.int .i64 e.ino,.int .i64 e.est]
structure bG (w W:World)(g1 g2:Nat)(a b r:Ent):Prop where
 below:Below w.heap.size w W
 b0:W.heap[w.heap.size]? =some (.cells (cl r) 71)
 b1:W.heap[g1]? =some (.cells (cl a) 71)
 b2:W.heap[g2]? =some (.cells (cl b) 71)
 gt1:w.heap.size<g1
 gt2:w.heap.size<g2
theorem bG.ab (w:World)(a b:Ent):bG w (((w.alloc (.cells (cl Ent.none) 71)).alloc (.cells (cl a) 71)).alloc (.cells (cl b) 71)).drew (w.alloc (.cells (cl Ent.none) 71)).heap.size ((w.alloc (.cells (cl Ent.none) 71)).heap.size+1) a b Ent.none:=by
 refine⟨((((gX _ _).alloc (gY _) _).alloc sp_ _).alloc (by simp;omega) _).drew,?_,?_,?_,sp_,by simp;omega⟩
 ·show((w.alloc _).alloc _|>.alloc _).heap[w.heap.size]? =_;rw[im _ _ _ (by simp;omega),im _ _ _ sp_];exact iV _ _
 ·show((w.alloc _).alloc _|>.alloc _).heap[_]? =_;rw[im _ _ _ sp_];exact iV _ _
 ·show((w.alloc _).alloc _|>.alloc _).heap[_]? =_;have:=iV ((w.alloc (.cells (cl Ent.none) 71)).alloc (.cells (cl a) 71)) (.cells (cl b) 71);simpa using this
theorem bG.ba (w:World)(a b:Ent):bG w (((w.alloc (.cells (cl Ent.none) 71)).alloc (.cells (cl b) 71)).alloc (.cells (cl a) 71)).drew ((w.alloc (.cells (cl Ent.none) 71)).heap.size+1) (w.alloc (.cells (cl Ent.none) 71)).heap.size a b Ent.none:=
 have h:=bG.ab w b a
 ⟨h.below,h.b0,h.b2,h.b1,h.gt2,h.gt1⟩
theorem bG.call {w W W1:World}{g1 g2:Nat}{a b r:Ent}(h:bG w W g1 g2 a b r)(hb:Below W.heap.size W W1):bG w W1 g1 g2 a b r:=
 have l1:=(gW.1 h.b1).1
 have l2:=(gW.1 h.b2).1
 have l0:=(gW.1 h.b0).1
 ⟨h.below.trans (hb.mono h.below.size),by rw[hb.block _ l0];exact h.b0,by rw[hb.block _ l1];exact h.b1,by rw[hb.block _ l2];exact h.b2,h.gt1,h.gt2⟩
theorem bG.draw {w W:World}{g1 g2:Nat}{a b r:Ent}(h:bG w W g1 g2 a b r)(q:Nat):bG w (W.drewN q) g1 g2 a b r:=h.call (aB (gX _ _))
theorem bG.cell1 {w W:World}{g1 g2:Nat}{a b r:Ent}(h:bG w W g1 g2 a b r):W.cell? ⟨g1,0,none⟩=some (.string a.name)∧W.cell? ⟨g1,1,none⟩=some (.int .i64 a.ino)∧W.cell? ⟨g1,2,none⟩=some (.int .i64 a.est):=
 ⟨by rw[iW _ _ _ _ _ _ h.b1];rfl,by rw[iW _ _ _ _ _ _ h.b1];rfl,by rw[iW _ _ _ _ _ _ h.b1];rfl⟩
theorem bG.cell2 {w W:World}{g1 g2:Nat}{a b r:Ent}(h:bG w W g1 g2 a b r):W.cell? ⟨g2,0,none⟩=some (.string b.name)∧W.cell? ⟨g2,1,none⟩=some (.int .i64 b.ino)∧W.cell? ⟨g2,2,none⟩=some (.int .i64 b.est):=
 ⟨by rw[iW _ _ _ _ _ _ h.b2];rfl,by rw[iW _ _ _ _ _ _ h.b2];rfl,by rw[iW _ _ _ _ _ _ h.b2];rfl⟩
theorem bG.cell0 {w W:World}{g1 g2:Nat}{a b r:Ent}(h:bG w W g1 g2 a b r):W.cell? ⟨w.heap.size,0,none⟩=some (.string r.name)∧W.cell? ⟨w.heap.size,1,none⟩=some (.int .i64 r.ino)∧W.cell? ⟨w.heap.size,2,none⟩=some (.int .i64 r.est)∧∀i,W.frozen? ⟨w.heap.size,i,none⟩=false:=
 ⟨by rw[iW _ _ _ _ _ _ h.b0];rfl,by rw[iW _ _ _ _ _ _ h.b0];rfl,by rw[iW _ _ _ _ _ _ h.b0];rfl,fun i=>frozen_of_row _ _ _ _ _ h.b0⟩
theorem bG.ret {w W:World}{g1 g2:Nat}{a b r:Ent}(h:bG w W g1 g2 a b r)(e:Ent):
 Below w.heap.size w (((W.setCell ⟨w.heap.size,0,none⟩ (.string e.name)).setCell ⟨w.heap.size,1,none⟩ (.int .i64 e.ino)).setCell ⟨w.heap.size,2,none⟩ (.int .i64 e.est))∧
 (((W.setCell ⟨w.heap.size,0,none⟩ (.string e.name)).setCell ⟨w.heap.size,1,none⟩ (.int .i64 e.ino)).setCell ⟨w.heap.size,2,none⟩ (.int .i64 e.est)).heap[w.heap.size]? =some (.cells (cl e) 71):=
 ⟨((h.below.setCell sp_ _).setCell sp_ _).setCell sp_ _,heap_setCell_same _ _ _ _ _ _ (heap_setCell_same _ _ _ _ _ _ (heap_setCell_same _ _ _ _ _ _ h.b0))⟩
end
section
open Go.RowKit
theorem cL {cs:Array Value}{o:Nat}{v0 v1 v2 v3 v4:Value}(h:o+5≤cs.size)(j:Nat):
 (((((cs.setIfInBounds o v0).setIfInBounds (o+1) v1).setIfInBounds (o+2) v2).setIfInBounds (o+3) v3).setIfInBounds (o+4) v4)[j]? =
  if j=o then some v0 else if j=o+1 then some v1 else if j=o+2 then some v2 else if j=o+3 then some v3 else if j=o+4 then some v4 else cs[j]? :=by
 simp only[iw,Array.size_setIfInBounds];repeat' split
 all_goals first|rfl|omega
theorem set3_get {cs:Array Value}{o:Nat}{v0 v1 v2:Value}(h:o+3≤cs.size)(j:Nat):
 (((cs.setIfInBounds o v0).setIfInBounds (o+1) v1).setIfInBounds (o+2) v2)[j]? =
  if j=o then some v0 else if j=o+1 then some v1 else if j=o+2 then some v2 else cs[j]? :=by
 simp only[iw,Array.size_setIfInBounds];repeat' split
 all_goals first|rfl|omega
theorem set2_get {cs:Array Value}{o:Nat}{v0 v1:Value}(h:o+2≤cs.size)(j:Nat):
 ((cs.setIfInBounds o v0).setIfInBounds (o+1) v1)[j]? =if j=o then some v0 else if j=o+1 then some v1 else cs[j]? :=by
 simp only[iw,Array.size_setIfInBounds];repeat' split
 all_goals first|rfl|omega
def bT (cs:Array Value)(n:Nat)(i:Ino):Array Value:=((((cs.setIfInBounds (n*5) (.bool i.live)).setIfInBounds (n*5+1) (.int .i64 i.stamp)).setIfInBounds (n*5+2) (.int .i64 i.links)).setIfInBounds (n*5+3) (.int .i64 i.p0)).setIfInBounds (n*5+4) (.int .i64 i.p1)
def put3v (cs:Array Value)(d s:Nat)(e:Ent):Array Value:=((cs.setIfInBounds (40+d*12+s*3) (.string e.name)).setIfInBounds (40+d*12+s*3+1) (.int .i64 e.ino)).setIfInBounds (40+d*12+s*3+2) (.int .i64 e.est)
def put2v (cs:Array Value)(x:Nat)(o:Int)(t:ByteArray):Array Value:=(cs.setIfInBounds (76+x*2) (.int .i64 o)).setIfInBounds (76+x*2+1) (.string t)
theorem ag.putIno {cs:Array Value}{m:Img}(h:ag cs m){n:Nat}(hn:n<8)(i:Ino):ag (bT cs n i) (m.putIno n i):=by
 have hs:=h.size;have g:=fun j=>cL (cs:=cs) (o:=n*5) (v0:=.bool i.live) (v1:=.int .i64 i.stamp) (v2:=.int .i64 i.links) (v3:=.int .i64 i.p0) (v4:=.int .i64 i.p1) om_ j
 unfold bT;refine⟨by simp[hs],fun k hk=>?_,fun k hk=>?_,fun k hk=>?_,fun k p hk hp=>?_,fun d s h1 h2=>?_,fun d s h1 h2=>?_,fun d s h1 h2=>?_,fun x h1=>?_,fun x h1=>?_,h.small,h.short⟩
 ·rw[g];by_cases e:k=n
  ·subst e;rw[if_pos rfl];simp[Img.putIno]
  ·rw[if_neg om_,if_neg om_,if_neg om_,if_neg om_,if_neg om_,h.live k hk];simp[Img.putIno,e]
 ·rw[g];by_cases e:k=n
  ·subst e;rw[if_neg om_,if_pos rfl];simp[Img.putIno]
  ·rw[if_neg om_,if_neg om_,if_neg om_,if_neg om_,if_neg om_,h.stamp k hk];simp[Img.putIno,e]
 ·rw[g];by_cases e:k=n
  ·subst e;rw[if_neg om_,if_neg om_,if_pos rfl];simp[Img.putIno]
  ·rw[if_neg om_,if_neg om_,if_neg om_,if_neg om_,if_neg om_,h.links k hk];simp[Img.putIno,e]
 ·rw[g];by_cases e:k=n
  ·subst e;match p,hp with
   |0,_=>rw[if_neg om_,if_neg om_,if_neg om_,if_pos rfl];simp[Img.putIno]
   |1,_=>rw[if_neg om_,if_neg om_,if_neg om_,if_neg om_,if_pos rfl];simp[Img.putIno]
  ·rw[if_neg om_,if_neg om_,if_neg om_,if_neg om_,if_neg om_,h.part k p hk hp];simp[Img.putIno,e]
 ·rw[g,if_neg om_,if_neg om_,if_neg om_,if_neg om_,if_neg om_];exact h.name d s h1 h2
 ·rw[g,if_neg om_,if_neg om_,if_neg om_,if_neg om_,if_neg om_];exact h.ino d s h1 h2
 ·rw[g,if_neg om_,if_neg om_,if_neg om_,if_neg om_,if_neg om_];exact h.est d s h1 h2
 ·rw[g,if_neg om_,if_neg om_,if_neg om_,if_neg om_,if_neg om_];exact h.of x h1
 ·rw[g,if_neg om_,if_neg om_,if_neg om_,if_neg om_,if_neg om_];exact h.text x h1
theorem ag.putEnt {cs:Array Value}{m:Img}(h:ag cs m){d s:Nat}(hd:d<3)(hs:s<4)(e:Ent)(he:e.name.size≤maxLen):ag (put3v cs d s e) (m.putEnt d s e):=by
 have hz:=h.size;have g:=fun j=>set3_get (cs:=cs) (o:=40+d*12+s*3) (v0:=.string e.name) (v1:=.int .i64 e.ino) (v2:=.int .i64 e.est) om_ j
 unfold put3v;refine⟨by simp[hz],fun k hk=>?_,fun k hk=>?_,fun k hk=>?_,fun k p hk hp=>?_,fun d' s' h1 h2=>?_,fun d' s' h1 h2=>?_,fun d' s' h1 h2=>?_,fun x h1=>?_,fun x h1=>?_,fun d' s'=>?_,h.short⟩
 ·rw[g,if_neg om_,if_neg om_,if_neg om_];exact h.live k hk
 ·rw[g,if_neg om_,if_neg om_,if_neg om_];exact h.stamp k hk
 ·rw[g,if_neg om_,if_neg om_,if_neg om_];exact h.links k hk
 ·rw[g,if_neg om_,if_neg om_,if_neg om_];exact h.part k p hk hp
 ·rw[g];by_cases c:d'=d∧s'=s
  ·obtain⟨rfl,rfl⟩:=c;rw[if_pos rfl];simp[Img.putEnt]
  ·rw[if_neg om_,if_neg om_,if_neg om_,h.name d' s' h1 h2];simp[Img.putEnt,c]
 ·rw[g];by_cases c:d'=d∧s'=s
  ·obtain⟨rfl,rfl⟩:=c;rw[if_neg om_,if_pos rfl];simp[Img.putEnt]
  ·rw[if_neg om_,if_neg om_,if_neg om_,h.ino d' s' h1 h2];simp[Img.putEnt,c]
 ·rw[g];by_cases c:d'=d∧s'=s
  ·obtain⟨rfl,rfl⟩:=c;rw[if_neg om_,if_neg om_,if_pos rfl];simp[Img.putEnt]
  ·rw[if_neg om_,if_neg om_,if_neg om_,h.est d' s' h1 h2];simp[Img.putEnt,c]
 ·rw[g,if_neg om_,if_neg om_,if_neg om_];exact h.of x h1
 ·rw[g,if_neg om_,if_neg om_,if_neg om_];exact h.text x h1
 ·show(if d'=d∧s'=s then e.name else m.name d' s').size≤maxLen;split
  ·exact he
  ·exact h.small d' s'
theorem ag.putData {cs:Array Value}{m:Img}(h:ag cs m){x:Nat}(hx:x<9)(o:Int)(t:ByteArray)(ht:t.size≤maxLen):ag (put2v cs x o t) (m.putData x o t):=by
 have hz:=h.size;have g:=fun j=>set2_get (cs:=cs) (o:=76+x*2) (v0:=.int .i64 o) (v1:=.string t) om_ j
 unfold put2v;refine⟨by simp[hz],fun k hk=>?_,fun k hk=>?_,fun k hk=>?_,fun k p hk hp=>?_,fun d' s' h1 h2=>?_,fun d' s' h1 h2=>?_,fun d' s' h1 h2=>?_,fun y h1=>?_,fun y h1=>?_,h.small,fun y=>?_⟩
 ·rw[g,if_neg om_,if_neg om_];exact h.live k hk
 ·rw[g,if_neg om_,if_neg om_];exact h.stamp k hk
 ·rw[g,if_neg om_,if_neg om_];exact h.links k hk
 ·rw[g,if_neg om_,if_neg om_];exact h.part k p hk hp
 ·rw[g,if_neg om_,if_neg om_];exact h.name d' s' h1 h2
 ·rw[g,if_neg om_,if_neg om_];exact h.ino d' s' h1 h2
 ·rw[g,if_neg om_,if_neg om_];exact h.est d' s' h1 h2
 ·rw[g];by_cases c:y=x
  ·subst c;rw[if_pos rfl];simp[Img.putData]
  ·rw[if_neg om_,if_neg om_,h.of y h1];simp[Img.putData,c]
 ·rw[g];by_cases c:y=x
  ·subst c;rw[if_neg om_,if_pos rfl];simp[Img.putData]
  ·rw[if_neg om_,if_neg om_,h.text y h1];simp[Img.putData,c]
 ·show(if y=x then t else m.text y).size≤maxLen;split
  ·exact ht
  ·exact h.short y
theorem ag.cell_at {cs:Array Value}{m:Img}(h:ag cs m)(i:Nat)(hi:i<94):(∃b,cs[i]? =some (.bool b))∨(∃n,cs[i]? =some (.int .i64 n))∨∃s,cs[i]? =some (.string s):=by
 by_cases h1:i<40
 ·have e:i=i/5*5+i%5:=om_;rcases(show i%5=0∨i%5=1∨i%5=2∨i%5=3∨i%5=4 by omega)with r|r|r|r|r<;>rw[e,r]
  ·exact .inl ⟨_,h.live (i/5) om_⟩
  ·exact .inr (.inl ⟨_,h.stamp (i/5) om_⟩)
  ·exact .inr (.inl ⟨_,h.links (i/5) om_⟩)
  ·exact .inr (.inl ⟨_,h.part (i/5) 0 om_ om_⟩)
  ·exact .inr (.inl ⟨_,h.part (i/5) 1 om_ om_⟩)
 ·by_cases h2:i<76
  ·have e:i=40+(i-40)/12*12+(i-40)%12/3*3+(i-40)%3:=om_;rcases(show(i-40)%3=0∨(i-40)%3=1∨(i-40)%3=2 by omega)with r|r|r<;>rw[e,r]
   ·exact .inr (.inr ⟨_,h.name ((i-40)/12) ((i-40)%12/3) om_ om_⟩)
   ·exact .inr (.inl ⟨_,h.ino ((i-40)/12) ((i-40)%12/3) om_ om_⟩)
   ·exact .inr (.inl ⟨_,h.est ((i-40)/12) ((i-40)%12/3) om_ om_⟩)
  ·have e:i=76+(i-76)/2*2+(i-76)%2:=om_;rcases(show(i-76)%2=0∨(i-76)%2=1 by omega)with r|r<;>rw[e,r]
   ·exact .inr (.inl ⟨_,h.of ((i-76)/2) om_⟩)
   ·exact .inr (.inr ⟨_,h.text ((i-76)/2) om_⟩)
theorem ag.all {cs:Array Value}{m:Img}(h:ag cs m):cs.all (·.oneCell')=true:=by
 rw[Array.all_eq_true];intro i hi;have hg:cs[i]? =some cs[i]:=by simp[hi]
 rcases h.cell_at i (by rw[h.size]at hi;exact hi)with⟨b,e⟩|⟨b,e⟩|⟨b,e⟩;all_goals
  rw[hg]at e
  rw[Option.some.inj e];rfl
theorem ag.agree {cs ds:Array Value}{m k:Img}(h:ag cs m)(h':ag ds k)(a:Img.Agree m k):cs=ds:=by
 refine ir fun i=>?_;by_cases hi:i<94
 ·by_cases h1:i<40
  ·have e:i=i/5*5+i%5:=om_;have hn:i/5<8:=om_;rcases(show i%5=0∨i%5=1∨i%5=2∨i%5=3∨i%5=4 by omega)with r|r|r|r|r<;>rw[e,r]
   ·exact(h.live _ hn).trans (by rw[a.live _ hn];exact(h'.live _ hn).symm)
   ·exact(h.stamp _ hn).trans (by rw[a.stamp _ hn];exact(h'.stamp _ hn).symm)
   ·exact(h.links _ hn).trans (by rw[a.links _ hn];exact(h'.links _ hn).symm)
   ·exact(h.part _ 0 hn om_).trans (by rw[a.part _ _ hn om_];exact(h'.part _ 0 hn om_).symm)
   ·exact(h.part _ 1 hn om_).trans (by rw[a.part _ _ hn om_];exact(h'.part _ 1 hn om_).symm)
  ·by_cases h2:i<76
   ·have e:i=40+(i-40)/12*12+(i-40)%12/3*3+(i-40)%3:=om_;have hd:(i-40)/12<3:=om_;have hs:(i-40)%12/3<4:=om_;rcases(show(i-40)%3=0∨(i-40)%3=1∨(i-40)%3=2 by omega)with r|r|r<;>rw[e,r]
    ·exact(h.name _ _ hd hs).trans (by rw[a.name _ _ hd hs];exact(h'.name _ _ hd hs).symm)
    ·exact(h.ino _ _ hd hs).trans (by rw[a.ino _ _ hd hs];exact(h'.ino _ _ hd hs).symm)
    ·exact(h.est _ _ hd hs).trans (by rw[a.est _ _ hd hs];exact(h'.est _ _ hd hs).symm)
   ·have e:i=76+(i-76)/2*2+(i-76)%2:=om_;have hx:(i-76)/2<9:=om_;rcases(show(i-76)%2=0∨(i-76)%2=1 by omega)with r|r<;>rw[e,r]
    ·exact(h.of _ hx).trans (by rw[a.of _ hx];exact(h'.of _ hx).symm)
    ·exact(h.text _ hx).trans (by rw[a.text _ hx];exact(h'.text _ hx).symm)
 ·rw[iv (by rw[h.size];omega),iv (by rw[h'.size];omega)]
end
end Go.Proofs.YtfpfpnhpbnnmfadGreatDoor
