import Derived.Test.YtfpfpnhpbnnmfadGreatDoorXad
import Derived.Test.YtfpfpnhpbnnmfadGreatDoorXaa
namespace Go.Proofs.YtfpfpnhpbnnmfadGreatDoor
section
open Go.RowKit
theorem cm {w:World}{a b:Nat}:(w.drewN a).drewN b=w.drewN (a+b):=fD w a b
theorem dK {w:World}{a b c:Nat}:((w.drewN a).drewN b).drewN c=w.drewN (a+(b+c)):=by rw[fD,fD]
theorem quiet_same2 {P:Program}{f:FuncId}{args:Array Value}{w:World}{a n:Nat}{v:Value}
 (h:Calls P f args (w.drewN (a+n)) fun e w'=>e=.returned v∧w'=w.drewN (a+n)):Calls P f args (w.drewN (a+n)) fun e w''=>e=.returned v∧∃m,w''=w.drewN (a+m):=
 h.mono fun _ _ ⟨he,hm⟩=>⟨he,n,hm⟩
end
section
open Go.RowKit
def cU (i:Ino):Value:=.agg #[.bool i.live,.int .i64 i.stamp,.int .i64 i.links,.int .i64 i.p0,.int .i64 i.p1]
def cq (e:Ent):Value:=.agg #[.string e.name,.int .i64 e.ino,.int .i64 e.est]
structure cQ (t0 t1:TypeId)(w wr:World)(g:Nat)(c0 c1:Array Value):Prop where
 below:Below w.heap.size w wr
 gt:w.heap.size<g
 size:g<wr.heap.size
 b0:wr.heap[w.heap.size]? =some (.cells c0 t0)
 b1:wr.heap[g]? =some (.cells c1 t1)
section
variable {t0 t1:TypeId}{w wr w1:World}{g:Nat}{c0 c1:Array Value}
theorem cQ.start (w:World)(t0 t1:TypeId)(c0 c1:Array Value):cQ t0 t1 w ((w.alloc (.cells c0 t0)).alloc (.cells c1 t1)) (w.heap.size+1) c0 c1:=
 ⟨((gX _ _).alloc (gY _) _).alloc sp_ _,sp_,sp_,heap_alloc2_old _ _ _,heap_alloc2_new _ _ _⟩
theorem cQ.call (h:cQ t0 t1 w wr g c0 c1)(hb:Below wr.heap.size wr w1):cQ t0 t1 w w1 g c0 c1:=
 have:=h.size
 have:=h.gt
 have:=hb.size
 ⟨h.below.trans (hb.mono om_),h.gt,om_,by rw[hb.block _ om_];exact h.b0,by rw[hb.block _ om_];exact h.b1⟩
theorem cQ.draw (h:cQ t0 t1 w wr g c0 c1)(q:Nat):cQ t0 t1 w (wr.drewN q) g c0 c1:=h.call (aB (gX _ _))
theorem cQ.set (h:cQ t0 t1 w wr g c0 c1)(i:Nat)(v:Value):cQ t0 t1 w (wr.setCell ⟨g,i,none⟩ v) g c0 (c1.setIfInBounds i v):=
 have:=h.gt
 ⟨h.below.setCell (by simp;omega) _,h.gt,by simpa using h.size,by rw[heap_setCell_other _ _ _ _ (by simp;omega)];exact h.b0,heap_setCell_same _ _ _ _ _ _ h.b1⟩
theorem cQ.res (h:cQ t0 t1 w wr g c0 c1)(i:Nat)(v:Value):cQ t0 t1 w (wr.setCell ⟨w.heap.size,i,none⟩ v) g (c0.setIfInBounds i v) c1:=
 have:=h.gt
 ⟨h.below.setCell sp_ _,h.gt,by simpa using h.size,heap_setCell_same _ _ _ _ _ _ h.b0,by rw[heap_setCell_other _ _ _ _ (by simp;omega)];exact h.b1⟩
end
theorem aS:Tryz.prog.underlying 68=some (.struct (Tryz.prog.fieldsOf 68)):=kr_
theorem bX:(Tryz.prog.info? 68).map (·.size)=some 5:=kr_
theorem aV:Tryz.prog.underlying 71=some (.struct (Tryz.prog.fieldsOf 71)):=kr_
theorem aX:(Tryz.prog.info? 71).map (·.size)=some 3:=kr_
def ino0:Array Value:= #[.bool false,.int .i64 0,.int .i64 0,.int .i64 0,.int .i64 0]
theorem cQ.ret5 {t1:TypeId}{w wr:World}{g:Nat}{c1:Array Value}(h:cQ 68 t1 w wr g ino0 c1)(v0 v1 v2 v3 v4:Value):
 cQ 68 t1 w (((((wr.setCell ⟨w.heap.size,0,none⟩ v0).setCell ⟨w.heap.size,1,none⟩ v1).setCell ⟨w.heap.size,2,none⟩ v2).setCell ⟨w.heap.size,3,none⟩ v3).setCell ⟨w.heap.size,4,none⟩ v4) g #[v0,v1,v2,v3,v4] c1:=
 ((((h.res 0 v0).res 1 v1).res 2 v2).res 3 v3).res 4 v4
end
end Go.Proofs.YtfpfpnhpbnnmfadGreatDoor
