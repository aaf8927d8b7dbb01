import Derived.Test.YtfpfpnhpbnnmfadGreatDoorXaa
import Derived.Test.YtfpfpnhpbnnmfadGreatDoorXax
import Derived.Test.YtfpfpnhpbnnmfadGreatDoorXas
import Derived.Test.YtfpfpnhpbnnmfadGreatDoorXam
import Derived.Test.YtfpfpnhpbnnmfadGreatDoorXar
import Derived.Test.YtfpfpnhpbnnmfadGreatDoorXad
set_option linter.unusedVariables false
namespace Go.Proofs.YtfpfpnhpbnnmfadGreatDoor
section
open Go.RowKit
theorem in8_row {cs:Array Value}{m:Img}(h:ag cs m){n:Nat}(hn:n<8):cs.extract (n*5) (n*5+5)= #[.bool (m.live n),.int .i64 (m.stamp n),.int .i64 (m.links n),.int .i64 (m.part n 0),.int .i64 (m.part n 1)]:=
 cut5 (h.live n hn) (h.stamp n hn) (h.links n hn) (h.part n 0 hn om_) (h.part n 1 hn om_)
theorem en8_row {cs:Array Value}{m:Img}(h:ag cs m){d s:Nat}(hd:d<3)(hs:s<4):cs.extract (40+d*12+s*3) (40+d*12+s*3+3)= #[.string (m.name d s),.int .i64 (m.ino d s),.int .i64 (m.est d s)]:=
 cut3 (h.name d s hd hs) (h.ino d s hd hs) (h.est d s hd hs)
theorem in8_under:Tryz.prog.underlying 68=some (.struct (Tryz.prog.fieldsOf 68)):=kr_
theorem en8_under:Tryz.prog.underlying 71=some (.struct (Tryz.prog.fieldsOf 71)):=kr_
theorem in8_cells:(Tryz.prog.info? 68).map (·.size)=some 5:=kr_
theorem en8_cells:(Tryz.prog.info? 71).map (·.size)=some 3:=kr_
def inZ8:Array Value:= #[.bool false,.int .i64 0,.int .i64 0,.int .i64 0,.int .i64 0]
theorem zero_in8 (w:World):(zeroValue 68).run Tryz.prog w=.ok (.agg inZ8) w:=kr_
def enZ8:Array Value:= #[.string ⟨#[]⟩,.int .i64 0,.int .i64 0]
theorem zero_en8 (w:World):(zeroValue 71).run Tryz.prog w=.ok (.agg enZ8) w:=kr_
theorem bF {o:Oper}{ρ:Operand→Value}(x y:Operand)(ho:o.op=.binOp .add 9 x y 9){a b c:List UInt8}(hx:ρ x=.string (mkb a))(hy:ρ y=.string (mkb b))(hv:a++b=c)(hc:c.length≤1000000000)(w:World):(execOp ρ o).run Tryz.prog w=.ok (.value (.string (mkb c))) w:=by
 subst hv;exact catT x y ho hx hy (by rw[gZ]at hc;exact hc) w
theorem db {w V:World}(hb:Below w.heap.size w V)(ht:Tab w){z:Int}(hz:I64 z){L:List UInt8}(hL:Lib.itoa z=L):
 Calls Tryz.prog 39 #[.int .i64 z] V fun e w'=>e=.returned (.string (mkb L))∧Below w.heap.size w w':=by
 rw[←hL];exact b_ hb ht hz
end
end Go.Proofs.YtfpfpnhpbnnmfadGreatDoor
