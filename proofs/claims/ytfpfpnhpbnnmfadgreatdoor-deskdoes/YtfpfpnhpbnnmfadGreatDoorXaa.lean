import Derived.Deep.RegionHeld
import Derived.Below
import Derived.Deep.WholeRow
import Derived.Laws.Rows
import Derived.Test.YtfpfpnhpbnnmfadGreatDoorRows
import Derived.WalkKit
import Derived.WalkSpells
import Derived.WalkLawsBesides
set_option maxHeartbeats 40000000
set_option maxRecDepth 100000
namespace Go.Proofs
theorem kr_ {p:Prop}(h:p:=by kernel_rfl):p:=h
theorem om_ {p:Prop}(h:p:=by omega):p:=h
theorem sp_ {p:Prop}(h:p:=by simp):p:=h
theorem dc_ {p:Prop}(h:p:=by decide):p:=h
abbrev gW:=@Array.getElem?_eq_some_iff
abbrev gX:=@Go.RowKit.Below.refl
abbrev gY:=@Nat.le_refl
abbrev gZ:=@List.length_append
abbrev g_:=@Int.toNat_natCast
abbrev hU:=@Int.eq_ofNat_of_zero_le
abbrev hY:=@Nat.zero_add
abbrev hZ:=@Nat.zero_le
abbrev h_:=@Nat.le_trans
abbrev ic:=@List.mem_cons
abbrev ie:=@Array.getElem?_extract
abbrev ig:=@List.length_cons
abbrev ij:=@Nat.lt_of_lt_of_le
abbrev ik:=@Bool.and_eq_true
abbrev im:=@Go.RowKit.Below.heap_alloc
abbrev ip:=@List.getElem?_eq_some_iff
abbrev iq:=@List.mem_cons_self
abbrev ir:=@Array.ext_getElem?
abbrev iu:=@Array.getElem?_append
abbrev iv:=@Array.getElem?_eq_none
abbrev iw:=@Array.getElem?_setIfInBounds
abbrev ix:=@Nat.add_assoc
abbrev iy:=@List.mem_cons_of_mem
abbrev iA:=@List.not_mem_nil
abbrev iB:=@List.getElem?_eq_getElem
abbrev iC:=@Array.size_append
abbrev iD:=@Array.getElem?_append_left
abbrev iE:=@List.mem_append
abbrev iF:=@List.append_assoc
abbrev iG:=@Bool.eq_false_iff
abbrev iH:=@List.mem_range
abbrev iI:=@List.length_take
abbrev iJ:=@List.forall_mem_cons
abbrev iK:=@List.length_drop
abbrev iL:=@List.all_eq_true
abbrev iM:=@List.append_nil
abbrev iN:=@List.length_nil
abbrev iO:=@List.length_map
abbrev iP:=@Go.RowKit.Below.heap_setCell
abbrev iQ:=@Bool.or_eq_false_iff
abbrev iR:=@List.pairwise_cons
abbrev iS:=@List.take_append_drop
abbrev iT:=@List.length_singleton
abbrev iU:=@wp_region_held_drew
abbrev iV:=@heap_alloc_last
abbrev iW:=@cell_of_row
end Go.Proofs
namespace Go.Proofs.YtfpfpnhpbnnmfadGreatDoor
section
structure Img where
 live:Nat→Bool
 stamp:Nat→Int
 links:Nat→Int
 part:Nat→Nat→Int
 name:Nat→Nat→ByteArray
 ino:Nat→Nat→Int
 est:Nat→Nat→Int
 of:Nat→Int
 text:Nat→ByteArray
namespace Img
def firstI (p:Nat→Bool):Nat→Int
 |0=>-1
 |n+1=>if firstI p n= -1 then(if p n then(n:Int)else-1)else firstI p n
theorem firstI_none {p:Nat→Bool}:∀{n:Nat},(∀j,j<n→p j=false)→firstI p n= -1
 |0,_=>rfl
 |n+1,h=>by
  have:=firstI_none (p:=p) (n:=n) (fun j hj=>h j om_);simp[firstI,this,h n om_]
theorem firstI_at {p:Nat→Bool}{k:Nat}(hp:p k=true)(h:∀j,j<k→p j=false):∀{n:Nat},k<n→firstI p n=k
 |0,hk=>by omega
 |n+1,hk=>by
  by_cases e:k=n
  ·subst e;have:=firstI_none (p:=p) (n:=k) h;simp[firstI,this,hp]
  ·have:=firstI_at hp h (n:=n) om_;have hne:¬((k:Int)= -1):=om_;simp[firstI,this,hne]
theorem firstI_cases (p:Nat→Bool):∀n:Nat,(firstI p n= -1∧∀j,j<n→p j=false)∨∃k:Nat,k<n∧firstI p n=k∧p k=true∧∀j,j<k→p j=false
 |0=>.inl ⟨rfl,fun j hj=>by omega⟩
 |n+1=>by
  rcases firstI_cases p n with⟨h1,h2⟩|⟨k,hk,h1,h2,h3⟩
  ·cases hp:p n
   ·left;refine⟨by simp[firstI,h1,hp],fun j hj=>?_⟩;by_cases e:j=n
    ·subst e;exact hp
    ·exact h2 j om_
   ·right;exact⟨n,om_,by simp[firstI,h1,hp],hp,h2⟩
  ·right;have hne:¬((k:Int)= -1):=om_;exact⟨k,om_,by simp[firstI,h1,hne],h2,h3⟩
def firstNZ (f:Nat→Int):Nat→Int
 |0=>0
 |n+1=>if firstNZ f n=0 then f n else firstNZ f n
theorem firstNZ_zero {f:Nat→Int}:∀{n:Nat},(∀j,j<n→f j=0)→firstNZ f n=0
 |0,_=>rfl
 |n+1,h=>by
  have:=firstNZ_zero (f:=f) (n:=n) (fun j hj=>h j om_);simp[firstNZ,this,h n om_]
theorem firstNZ_at {f:Nat→Int}{k:Nat}(hp:f k≠0)(h:∀j,j<k→f j=0):∀{n:Nat},k<n→firstNZ f n=f k
 |0,hk=>by omega
 |n+1,hk=>by
  by_cases e:k=n
  ·subst e;simp[firstNZ,firstNZ_zero (f:=f) (n:=k) h]
  ·have:=firstNZ_at hp h (n:=n) om_;simp[firstNZ,this,hp]
theorem firstNZ_eq_zero {f:Nat→Int}:∀{n:Nat},firstNZ f n=0→∀j,j<n→f j=0
 |0,_,j,hj=>by omega
 |n+1,h,j,hj=>by
  unfold firstNZ at h;by_cases e:firstNZ f n=0
  ·rw[if_pos e]at h;by_cases ej:j=n
   ·subst ej;exact h
   ·exact firstNZ_eq_zero e j om_
  ·rw[if_neg e]at h;exact absurd h e
def cnt (p:Nat→Bool):Nat→Nat
 |0=>0
 |n+1=>cnt p n+(if p n then 1 else 0)
theorem cnt_yes {p:Nat→Bool}{n:Nat}(h:p n=true):cnt p (n+1)=cnt p n+1:=by simp[cnt,h]
theorem cnt_no {p:Nat→Bool}{n:Nat}(h:p n=false):cnt p (n+1)=cnt p n:=by simp[cnt,h]
theorem cnt_le (p:Nat→Bool):∀n,cnt p n≤n
 |0=>gY _
 |n+1=>by have:=cnt_le p n;unfold cnt;split<;>omega
def anyB (p:Nat→Bool):Nat→Bool
 |0=>false
 |n+1=>anyB p n||p n
theorem anyB_false {p:Nat→Bool}:∀{n:Nat},anyB p n=false↔∀j,j<n→p j=false
 |0=>⟨fun _ j hj=>by omega,fun _=>rfl⟩
 |n+1=>by
  unfold anyB;rw[iQ,anyB_false (p:=p) (n:=n)];constructor
  ·rintro⟨h1,h2⟩ j hj;by_cases e:j=n
   ·subst e;exact h2
   ·exact h1 j om_
  ·intro h;exact⟨fun j hj=>h j om_,h n om_⟩
theorem anyB_true {p:Nat→Bool}{k n:Nat}(hk:k<n)(h:p k=true):anyB p n=true:=by
 cases e:anyB p n
 ·rw[anyB_false]at e;rw[e k hk]at h;cases h
 ·rfl
def isNmB (l:List UInt8):Bool:=decide (1≤l.length)&&decide (l.length≤6)&&l.all fun c=>decide (97≤c.toNat)&&decide (c.toNat≤122)
def isD (x:Int):Bool:=decide (0≤x)&&decide (x<9)
def isI (x:Int):Bool:=decide (0≤x)&&decide (x<8)
variable (m:Img)
def named (d s:Nat):Bool:= !(m.name d s).toList.isEmpty
def leads (ino:Int)(d s:Nat):Bool:=m.named d s&&m.ino d s==ino
theorem lead_cases (ino:Int)(d s:Nat):((m.name d s).toList.isEmpty=true∧m.leads ino d s=false)∨((m.name d s).toList.isEmpty=false∧(m.ino d s==ino)=true∧m.leads ino d s=true)∨((m.name d s).toList.isEmpty=false∧(m.ino d s==ino)=false∧m.leads ino d s=false):=by
 unfold leads named;cases (m.name d s).toList.isEmpty<;>cases (m.ino d s==ino)<;>simp
def refsTo (ino:Int):Nat→Nat
 |0=>0
 |d+1=>refsTo ino d+cnt (m.leads ino d) 4
def refs (ino:Int):Nat:=m.refsTo ino 3
def find (d:Nat)(nm:List UInt8):Int:=firstI (fun s=>(m.name d s).toList==nm) 4
def findAt (d:Int)(nm:List UInt8):Int:=if 0≤d∧d<3∧nm.isEmpty=false then m.find d.toNat nm else-1
def hasPart (n:Nat)(x:Int):Bool:=m.part n 0==x||m.part n 1==x
def holds (x:Int):Bool:=isD x&&anyB (fun n=>m.live n&&m.hasPart n x) 8
def checkSlot (d s:Nat):Int:=
 if m.named d s=false then(if m.ino d s=0∧m.est d s=0 then 0 else 12)
 else if isNmB (m.name d s).toList=false then 2
 else if m.find d (m.name d s).toList<s then 4
 else if isI (m.ino d s)=false then 1
 else if m.live (m.ino d s).toNat=false∨m.stamp (m.ino d s).toNat≠m.est d s then 8 else 0
def checkPart (p st:Int):Int:=
 if p= -1 then 0 else if isD p=false then 1 else if m.of p.toNat≠st then 10 else 0
abbrev free (n:Nat):Prop:=m.stamp n=0∧m.links n=0∧m.part n 0= -1∧m.part n 1= -1
def checkInode (n:Nat):Int:=
 if m.live n=false then(if m.free n then 0 else 12)
 else if m.stamp n<1∨m.links n<m.refs n then 9
 else firstNZ (fun p=>m.checkPart (m.part n p) (m.stamp n)) 2
def stampTwice:Bool:=anyB (fun n=>anyB (fun k=>m.live n&&m.live k&&m.stamp n==m.stamp k) n) 8
def pa (t:Nat):Int:=if m.live (t/2)then m.part (t/2) (t%2)else-1
def dataTwice:Bool:=anyB (fun t=>isD (m.pa t)&&anyB (fun u=>m.pa u==m.pa t) t) 16
def check:Int:=
 if firstNZ (fun d=>firstNZ (fun s=>m.checkSlot d s) 4) 3≠0 then firstNZ (fun d=>firstNZ (fun s=>m.checkSlot d s) 4) 3
 else if firstNZ (fun n=>m.checkInode n) 8≠0 then firstNZ (fun n=>m.checkInode n) 8
 else if m.stampTwice||m.dataTwice then 11 else 0
def exact:Bool:=decide (m.check=0)&& !anyB (fun n=>m.live n&&(decide (m.links n<1)|| !(m.links n==(m.refs n:Int)))) 8
theorem refsTo_le (ino:Int):∀d,m.refsTo ino d≤4*d
 |0=>gY _
 |d+1=>by have:=refsTo_le ino d;have:=cnt_le (m.leads ino d) 4;unfold refsTo;omega
theorem refs_le (ino:Int):m.refs ino≤12:=m.refsTo_le ino 3
end Img
end
section
namespace Img
variable {m:Img}
structure Well (m:Img):Prop where
 slot:∀d s,d<3→s<4→m.checkSlot d s=0
 inode:∀n,n<8→m.checkInode n=0
 stamps:m.stampTwice=false
 datas:m.dataTwice=false
theorem well_iff:m.check=0↔Well m:=by
 constructor
 ·intro h;unfold check at h;by_cases h1:firstNZ (fun d=>firstNZ (fun s=>m.checkSlot d s) 4) 3=0
  ·rw[if_neg (by rw[h1];simp)]at h;by_cases h2:firstNZ (fun n=>m.checkInode n) 8=0
   ·rw[if_neg (by rw[h2];simp)]at h;have h3:(m.stampTwice||m.dataTwice)=false:=by
     cases h3:(m.stampTwice||m.dataTwice)
     ·rfl
     ·rw[h3]at h;simp at h
    rw[iQ]at h3;exact⟨fun d s hd hs=>firstNZ_eq_zero (firstNZ_eq_zero h1 d hd) s hs,fun n hn=>firstNZ_eq_zero h2 n hn,h3.1,h3.2⟩
   ·rw[if_pos h2]at h;exact absurd h h2
  ·rw[if_pos h1]at h;exact absurd h h1
 ·intro h;have h1:firstNZ (fun d=>firstNZ (fun s=>m.checkSlot d s) 4) 3=0:=firstNZ_zero fun d hd=>firstNZ_zero fun s hs=>h.slot d s hd hs
  have h2:firstNZ (fun n=>m.checkInode n) 8=0:=firstNZ_zero fun n hn=>h.inode n hn
  unfold check;rw[h1,h2,h.stamps,h.datas];rfl
structure SlotOk (m:Img)(d s:Nat):Prop where
 nm:isNmB (m.name d s).toList=true
 first:(s:Int)≤m.find d (m.name d s).toList
 lo:0≤m.ino d s
 hi:m.ino d s<8
 live:m.live (m.ino d s).toNat=true
 stamp:m.stamp (m.ino d s).toNat=m.est d s
theorem slot_ok {d s:Nat}(hn:m.named d s=true):m.checkSlot d s=0↔SlotOk m d s:=by
 unfold checkSlot;rw[if_neg (by rw[hn];simp)];constructor
 ·intro h;by_cases h1:isNmB (m.name d s).toList=false
  ·rw[if_pos h1]at h;simp at h
  rw[if_neg h1]at h;by_cases h2:m.find d (m.name d s).toList<s
  ·rw[if_pos h2]at h;simp at h
  rw[if_neg h2]at h;by_cases h3:isI (m.ino d s)=false
  ·rw[if_pos h3]at h;simp at h
  rw[if_neg h3]at h;by_cases h4:m.live (m.ino d s).toNat=false∨m.stamp (m.ino d s).toNat≠m.est d s
  ·rw[if_pos h4]at h;simp at h
  have h3':isI (m.ino d s)=true:=by simpa using h3
  have hb:0≤m.ino d s∧m.ino d s<8:=by simpa[isI]using h3'
  refine⟨by simpa using h1,om_,hb.1,hb.2,?_,?_⟩
  ·cases e:m.live (m.ino d s).toNat
   ·exact absurd (.inl e) h4
   ·rfl
  ·by_cases e:m.stamp (m.ino d s).toNat=m.est d s
   ·exact e
   ·exact absurd (.inr e) h4
 ·intro h;have h3:isI (m.ino d s)=true:=by simp[isI,h.lo,h.hi]
  rw[if_neg (by rw[h.nm];simp),if_neg (by have:=h.first;omega),if_neg (by rw[h3];simp),if_neg];rintro(e|e)
  ·rw[h.live]at e;cases e
  ·exact e h.stamp
theorem find_le {d s:Nat}(hs:s<4):m.find d (m.name d s).toList≤s:=by
 unfold find;rcases firstI_cases (fun s'=>(m.name d s').toList==(m.name d s).toList) 4 with⟨_,h2⟩|⟨k,hk,h1,h2,h3⟩
 ·have:=h2 s hs;simp at this
 ·rw[h1];by_cases e:s<k
  ·have:=h3 s e;simp at this
  ·omega
theorem find_self {d s:Nat}(h:m.check=0)(hd:d<3)(hs:s<4)(hn:m.named d s=true):m.find d (m.name d s).toList=s:=by
 have h1:=((slot_ok hn).1 ((well_iff.1 h).slot d s hd hs)).first;have h2:=find_le (m:=m) (d:=d) hs;omega
end Img
end
section
open Go.RowKit
structure aP (w:World)(b:Nat)(m:Img):Prop where
 lt:b<w.heap.size
 live:∀n:Nat,n<8→w.cell? ⟨b,n*5,none⟩=some (.bool (m.live n))
 stamp:∀n:Nat,n<8→w.cell? ⟨b,n*5+1,none⟩=some (.int .i64 (m.stamp n))
 links:∀n:Nat,n<8→w.cell? ⟨b,n*5+2,none⟩=some (.int .i64 (m.links n))
 part:∀n p:Nat,n<8→p<2→w.cell? ⟨b,n*5+3+p,none⟩=some (.int .i64 (m.part n p))
 name:∀d s:Nat,d<3→s<4→w.cell? ⟨b,40+d*12+s*3,none⟩=some (.string (m.name d s))
 ino:∀d s:Nat,d<3→s<4→w.cell? ⟨b,40+d*12+s*3+1,none⟩=some (.int .i64 (m.ino d s))
 est:∀d s:Nat,d<3→s<4→w.cell? ⟨b,40+d*12+s*3+2,none⟩=some (.int .i64 (m.est d s))
 of:∀x:Nat,x<9→w.cell? ⟨b,76+x*2,none⟩=some (.int .i64 (m.of x))
 text:∀x:Nat,x<9→w.cell? ⟨b,76+x*2+1,none⟩=some (.string (m.text x))
 small:∀d s:Nat,(m.name d s).size≤maxLen
 short:∀x:Nat,(m.text x).size≤maxLen
theorem aP.below {w w':World}{b:Nat}{m:Img}{B:Nat}(h:aP w b m)(hb:Below B w w')(hB:b<B):aP w' b m:=by
 have hc:∀o,w'.cell? ⟨b,o,none⟩=w.cell? ⟨b,o,none⟩:=fun o=>hb.cell (p:=⟨b,o,none⟩) hB
 have hs:=hb.size;have hl:=h.lt;exact⟨om_,fun n h1=>by rw[hc];exact h.live n h1,fun n h1=>by rw[hc];exact h.stamp n h1,fun n h1=>by rw[hc];exact h.links n h1,
  fun n p h1 h2=>by rw[hc];exact h.part n p h1 h2,fun d s h1 h2=>by rw[hc];exact h.name d s h1 h2,fun d s h1 h2=>by rw[hc];exact h.ino d s h1 h2,
  fun d s h1 h2=>by rw[hc];exact h.est d s h1 h2,fun x h1=>by rw[hc];exact h.of x h1,fun x h1=>by rw[hc];exact h.text x h1,h.small,h.short⟩
theorem bcell {W w1:World}(hb:Below W.heap.size W w1):(∀b o,b<W.heap.size→w1.cell? ⟨b,o,none⟩=W.cell? ⟨b,o,none⟩)∧(∀b o,b<W.heap.size→w1.frozen? ⟨b,o,none⟩=W.frozen? ⟨b,o,none⟩):=
 ⟨fun b o h=>hb.cell (p:=⟨b,o,none⟩) h,fun b o h=>hb.frozen (p:=⟨b,o,none⟩) h⟩
theorem ae {p:Prop}(h:p):Hid p:=h
theorem ac {p:Prop}(h:Hid p):p:=h
theorem Hid.o {p:Prop}(h:Hid p):p:=h
theorem az {k:IntKind}{a b:Int}(h:a=b):Ending.returned (.int k a)=.returned (.int k b):=by rw[h]
theorem av {a b:Bool}(h:a=b):Ending.returned (.bool a)=.returned (.bool b):=by rw[h]
end
section
open Go.RowKit
theorem bm (x:Int)(w:World):
 Calls Tryz.prog 224 #[.int .i64 x] w fun e w'=>e=.returned (.bool (Img.isD x))∧w'=w:=by
 go_enter Tryz.func224,Tryz.ntmps224;go_wp2;all_goals
  go_ret
  refine⟨av ?_,rfl⟩
  simp[Img.isD]
  try omega
theorem dp (x:Int)(w:World):
 Calls Tryz.prog 222 #[.int .i64 x] w fun e w'=>e=.returned (.bool (Img.isI x))∧w'=w:=by
 go_enter Tryz.func222,Tryz.ntmps222;go_wp2;all_goals
  go_ret
  refine⟨av ?_,rfl⟩
  simp[Img.isI]
  try omega
theorem find_in (b:Nat)(m:Img)(d:Nat)(hd:d<3)(nm:ByteArray)(hne:nm.toList.isEmpty=false)(w:World)(hm:aP w b m):
 Calls Tryz.prog 88 #[.pointer (some ⟨b,0,none⟩),.int .i64 d,.string nm] w fun e w'=>e=.returned (.int .i64 (m.find d nm.toList))∧w'=w:=by
 have hn:=hm.name;go_enter Tryz.func88,Tryz.ntmps88;go_wp2;go_loop [18] (fun i=>∃k:Nat,k≤4∧i=.int .i64 k∧∀j,j<k→((m.name d j).toList==nm.toList)=false) (fun i=>4-(intOf i).toNat)
 case atStart=>exact⟨0,om_,rfl,fun j hj=>by omega⟩
 case round=>
  obtain⟨k,hk,rfl,hall⟩:=hrel;have H:=ae hall;clear hall;by_cases hlt:k<4
  ·go_wp2
   ·rename_i hx _
    go_ret;exact⟨az (Img.firstI_at (p:=fun s=>(m.name d s).toList==nm.toList) hx (ac H) hlt).symm,rfl⟩
   ·rename_i hx
    refine⟨⟨k+1,om_,by go_num,fun j hj=>?_⟩,by simp[intOf];omega⟩;by_cases e:j=k
    ·subst e;exact hx
    ·exact ac H j om_
  ·go_wp2;go_ret;exact⟨az (Img.firstI_none (p:=fun s=>(m.name d s).toList==nm.toList) fun j hj=>ac H j om_).symm,rfl⟩
theorem refs_any (b:Nat)(m:Img)(ino:Int)(w:World)(hm:aP w b m):
 Calls Tryz.prog 157 #[.pointer (some ⟨b,0,none⟩),.int .i64 ino] w fun e w'=>e=.returned (.int .i64 (m.refs ino:Nat))∧w'=w:=by
 have hn:=hm.name;have hi:=hm.ino;go_enter Tryz.func157,Tryz.ntmps157;go_wp2;go_loop [5,9] (fun c i=>∃d:Nat,d≤3∧i=.int .i64 d∧c=.int .i64 (m.refsTo ino d:Nat)) (fun _ i=>3-(intOf i).toNat)
 case atStart=>exact⟨0,om_,rfl,rfl⟩
 case round=>
  obtain⟨d,hd,rfl,rfl⟩:=hrel;have hb:=m.refsTo_le ino d;by_cases hlt:d<3
  ·go_wp2;go_loop [5,12] (fun c i=>∃s:Nat,s≤4∧i=.int .i64 s∧c=.int .i64 (m.refsTo ino d+Img.cnt (m.leads ino d) s:Nat)) (fun _ i=>4-(intOf i).toNat)
   case atStart=>exact⟨0,om_,rfl,by simp[Img.cnt]⟩
   case round=>
    obtain⟨s,hs,rfl,rfl⟩:=hrel;have hc:=Img.cnt_le (m.leads ino d) s;by_cases hls:s<4
    ·rcases m.lead_cases ino d s with⟨g1,g2⟩|⟨g1,g3,g2⟩|⟨g1,g3,g2⟩
     ·have H:=ae (Img.cnt_no g2);clear g2;go_wp2;exact⟨⟨s+1,om_,by go_num,by rw[ac H]⟩,by simp[intOf];omega⟩
     ·have H:=ae (Img.cnt_yes g2);clear g2;go_wp2;exact⟨⟨s+1,om_,by go_num,by rw[ac H];go_num⟩,by simp[intOf];omega⟩
     ·have H:=ae (Img.cnt_no g2);clear g2;go_wp2;exact⟨⟨s+1,om_,by go_num,by rw[ac H]⟩,by simp[intOf];omega⟩
    ·have e:s=4:=om_;subst e;go_wp2;refine⟨⟨d+1,om_,by go_num,by simp[Img.refsTo]⟩,by simp[intOf];omega⟩
  ·have e:d=3:=om_;subst e;go_wp2;go_ret;exact⟨rfl,rfl⟩
end
section
open Go.RowKit
theorem cK {s:ByteArray}{f:UInt8→Bool}{k:Nat}(h:k<s.size):(s.toList.take (k+1)).all f=((s.toList.take k).all f&&f s[k]):=by
 rw[ByteArray.toList_eq,List.take_succ_eq_append_getElem (by simpa using h),List.all_append];simp;rfl
theorem dI (s:ByteArray):s.toList.length=s.size:=by rw[ByteArray.toList_eq];cases s;rfl
def ltr (c:UInt8):Bool:=decide (97≤c.toNat)&&decide (c.toNat≤122)
theorem bV (s:ByteArray):Img.isNmB s.toList=(decide (1≤s.size)&&decide (s.size≤6)&&s.toList.all ltr):=by
 unfold Img.isNmB;rw[dI];rfl
theorem dR {s:ByteArray}{k:Nat}(h:k<s.size)(hc:ltr s[k]=false):Img.isNmB s.toList=false:=by
 have h1:=cK (f:=ltr) h;rw[hc,Bool.and_false]at h1;have h2:s.toList.all ltr=false:=by
  rw[←iS (k+1) s.toList,List.all_append,h1,Bool.false_and]
 rw[bV,h2,Bool.and_false]
theorem cN (s:ByteArray)(hs:s.size≤maxLen)(w:World):
 Calls Tryz.prog 221 #[.string s] w fun e w'=>e=.returned (.bool (Img.isNmB s.toList))∧w'=w:=by
 unfold maxLen at hs;by_cases h1:s.size<1
 ·have e:Img.isNmB s.toList=false:=by rw[bV];simp;omega
  rw[e];clear e;go_enter Tryz.func221,Tryz.ntmps221;go_wp2;go_ret;exact⟨rfl,rfl⟩
 by_cases h6:6<s.size
 ·have e:Img.isNmB s.toList=false:=by rw[bV];simp;omega
  rw[e];clear e;go_enter Tryz.func221,Tryz.ntmps221;go_wp2;go_ret;exact⟨rfl,rfl⟩
 go_enter Tryz.func221,Tryz.ntmps221;go_wp2;go_loop [14] (fun i=>∃k:Nat,k≤s.size∧i=.int .i64 k∧(s.toList.take k).all ltr=true) (fun i=>s.size-(intOf i).toNat)
 case atStart=>exact⟨0,om_,rfl,rfl⟩
 case round=>
  obtain⟨k,hk,rfl,hall⟩:=hrel;have H:=ae hall;clear hall;by_cases hlt:k<s.size
  ·by_cases hc:97≤(s[k].toNat:Int)∧(s[k].toNat:Int)≤122
   ·obtain⟨c1,c2⟩:=hc;go_wp2;refine⟨⟨k+1,om_,by go_num,?_⟩,by simp[intOf];omega⟩;rw[cK hlt,ac H];simp[ltr];omega
   ·have e:Img.isNmB s.toList=false:=dR hlt (by simp[ltr];omega);have E:=ae e;clear e;go_wp2;all_goals first|(exfalso;omega)|(go_ret;exact⟨av (ac E).symm,rfl⟩)
  ·go_wp2;go_ret;refine⟨av ?_,rfl⟩;have h2:=ac H;rw[List.take_of_length_le (by rw[dI];omega)]at h2;rw[bV,h2];simp;omega
theorem dq (b o:Nat)(p0 p1 x:Int)(w:World)(h0:w.cell? ⟨b,o+3,none⟩=some (.int .i64 p0))(h1:w.cell? ⟨b,o+3+1,none⟩=some (.int .i64 p1)):
 Calls Tryz.prog 225 #[.pointer (some ⟨b,o,none⟩),.int .i64 x] w fun e w'=>e=.returned (.bool (p0==x||p1==x))∧w'=w:=by
 have i0:∀w,(Instr.index 66 (.agg #[.int .i64 p0,.int .i64 p1]) (.int .i64 0)).run Tryz.prog w=.ok (.int .i64 p0) w:=fun _=>by kernel_rfl
 have i1:∀w,(Instr.index 66 (.agg #[.int .i64 p0,.int .i64 p1]) (.int .i64 1)).run Tryz.prog w=.ok (.int .i64 p1) w:=fun _=>by kernel_rfl
 go_enter Tryz.func225,Tryz.ntmps225;go_wp2;go_loop [11] (fun i=>∃k:Nat,k≤2∧i=.int .i64 k∧(1≤k→(p0==x)=false)∧(2≤k→(p1==x)=false)) (fun i=>2-(intOf i).toNat)
 case atStart=>exact⟨0,om_,rfl,fun h=>by omega,fun h=>by omega⟩
 case round=>
  obtain⟨k,hk,rfl,g1,g2⟩:=hrel;have G1:=ae g1;have G2:=ae g2;clear g1 g2;match k,hk with
  |0,_=>
   cases hx:p0==x
   ·go_wp2;exact⟨⟨1,om_,by go_num,fun _=>by first|exact hx|trivial,fun h=>by omega⟩,by simp[intOf]⟩
   ·go_wp2;go_ret;exact⟨av (by first|rfl|simp_all),rfl⟩
  |1,_=>
   cases hx:p1==x
   ·go_wp2;exact⟨⟨2,om_,by go_num,fun _=>ac G1 om_,fun _=>by first|exact hx|trivial⟩,by simp[intOf]⟩
   ·go_wp2;go_ret;exact⟨av (by first|rfl|simp_all),rfl⟩
  |2,_=>
   go_wp2;go_ret;exact⟨av (by rw[ac G1 om_,ac G2 om_];rfl),rfl⟩
theorem eL (b:Nat)(m:Img)(p st:Int)(w:World)(hm:aP w b m):
 Calls Tryz.prog 223 #[.pointer (some ⟨b,0,none⟩),.int .i64 p,.int .i64 st] w fun e w'=>e=.returned (.int .i64 (m.checkPart p st))∧w'=w:=by
 have hof:=hm.of;cases h1:p== -1
 ·cases h2:Img.isD p
  ·have E:=ae (show m.checkPart p st=1 by unfold Img.checkPart;rw[if_neg (by simpa using h1),if_pos h2]);go_enter Tryz.func223,Tryz.ntmps223;go_wp2_with(go_at_call 224;refine(bm _ _).mono ?_;rintro e w' ⟨rfl,rfl⟩);go_ret;exact⟨az (ac E).symm,rfl⟩
  ·have hb:0≤p∧p<9:=by simpa[Img.isD]using h2
   obtain⟨k,rfl⟩:=hU hb.1;have hk:k<9:=om_;have hcell:=hof k hk;cases h3:m.of k==st
   ·have E:=ae (show m.checkPart (k:Int) st=10 by unfold Img.checkPart;rw[if_neg om_,if_neg (by rw[h2];simp),g_,if_pos (by simpa using h3)]);go_enter Tryz.func223,Tryz.ntmps223;go_wp2_with(go_at_call 224;refine(bm _ _).mono ?_;rintro e w' ⟨rfl,rfl⟩);go_ret;exact⟨az (ac E).symm,rfl⟩
   ·have E:=ae (show m.checkPart (k:Int) st=0 by unfold Img.checkPart;rw[if_neg om_,if_neg (by rw[h2];simp),g_,if_neg (by simpa using h3)]);go_enter Tryz.func223,Tryz.ntmps223;go_wp2_with(go_at_call 224;refine(bm _ _).mono ?_;rintro e w' ⟨rfl,rfl⟩);go_ret;exact⟨az (ac E).symm,rfl⟩
 ·have E:=ae (show m.checkPart p st=0 by unfold Img.checkPart;rw[if_pos (by simpa using h1)]);go_enter Tryz.func223,Tryz.ntmps223;go_wp2;go_ret;exact⟨az (ac E).symm,rfl⟩
theorem holds_any (b:Nat)(m:Img)(x:Int)(w:World)(hm:aP w b m):
 Calls Tryz.prog 196 #[.pointer (some ⟨b,0,none⟩),.int .i64 x] w fun e w'=>e=.returned (.bool (m.holds x))∧w'=w:=by
 have hlv:=hm.live;cases h2:Img.isD x
 ·have E:=ae (show m.holds x=false by unfold Img.holds;rw[h2];rfl);go_enter Tryz.func196,Tryz.ntmps196;go_wp2_with(go_at_call 224;refine(bm _ _).mono ?_;rintro e w' ⟨rfl,rfl⟩);go_ret;exact⟨av (ac E).symm,rfl⟩
 ·have E:=ae (show m.holds x=Img.anyB (fun n=>m.live n&&m.hasPart n x) 8 by unfold Img.holds;rw[h2];rfl);go_enter Tryz.func196,Tryz.ntmps196;go_wp2_with(go_at_call 224;refine(bm _ _).mono ?_;rintro e w' ⟨rfl,rfl⟩);go_loop [9] (fun i=>∃k:Nat,k≤8∧i=.int .i64 k∧∀j,j<k→(m.live j&&m.hasPart j x)=false) (fun i=>8-(intOf i).toNat)
  case atStart=>exact⟨0,om_,rfl,fun j hj=>by omega⟩
  case round=>
   obtain⟨k,hk,rfl,hall⟩:=hrel;have H:=ae hall;clear hall;by_cases hlt:k<8
   ·have hp0:=hm.part k 0 hlt om_;have hp1:=hm.part k 1 hlt om_;have step:(m.live k&&m.hasPart k x)=false→∀j,j<k+1→(m.live j&&m.hasPart j x)=false:=fun h j hj=>by
     by_cases e:j=k
     ·subst e;exact h
     ·exact ac H j om_
    have S:=ae step;clear step;cases hl:m.live k
    ·have hl':=hlv k hlt;rw[hl]at hl';go_wp2;exact⟨⟨k+1,om_,by go_num,ac S (by rw[hl];rfl)⟩,by simp[intOf];omega⟩
    ·have hl':=hlv k hlt;rw[hl]at hl';cases hq:m.hasPart k x
     ·have hq':(m.part k 0==x||m.part k 1==x)=false:=hq;go_wp2_with(go_at_call 225;refine(dq _ _ _ _ _ _ hp0 hp1).mono ?_;rw[hq'];rintro e w' ⟨rfl,rfl⟩);exact⟨⟨k+1,om_,by go_num,ac S (by rw[hq,Bool.and_false])⟩,by simp[intOf];omega⟩
     ·have hq':(m.part k 0==x||m.part k 1==x)=true:=hq;go_wp2_with(go_at_call 225;refine(dq _ _ _ _ _ _ hp0 hp1).mono ?_;rw[hq'];rintro e w' ⟨rfl,rfl⟩);go_ret;exact⟨av (by rw[ac E];exact(Img.anyB_true hlt (by rw[hl,hq];rfl)).symm),rfl⟩
   ·go_wp2;go_ret;exact⟨av (by rw[ac E];exact(Img.anyB_false.2 fun j hj=>ac H j om_).symm),rfl⟩
end
end Go.Proofs.YtfpfpnhpbnnmfadGreatDoor
