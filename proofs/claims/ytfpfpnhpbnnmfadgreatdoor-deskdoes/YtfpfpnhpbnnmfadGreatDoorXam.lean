import Derived.Test.YtfpfpnhpbnnmfadGreatDoorXaa
import Derived.Test.YtfpfpnhpbnnmfadGreatDoorXag
import Derived.ChangeKeysEq
import Derived.Test.YtfpfpnhpbnnmfadGreatDoorXaq
import Derived.Laws.AppendOwn
import Derived.Deep.QuietTactic
import Derived.BigQuiet
import Derived.Deep.RegionWith
set_option maxHeartbeats 40000000
set_option maxRecDepth 100000
namespace Go.Proofs.YtfpfpnhpbnnmfadGreatDoor
section
open Go.RowKit
theorem f_ (xs:Array Value)(off:Nat)(w:World):(part 68 xs off).run Tryz.prog w=.ok (.agg (xs.extract off (off+5))) w:=by
 have u:=run_underlying (w:=w) Tryz.underlying68;simp[part,isAgg,u]
theorem ga (xs:Array Value)(off:Nat)(w:World):(part 71 xs off).run Tryz.prog w=.ok (.agg (xs.extract off (off+3))) w:=by
 have u:=run_underlying (w:=w) Tryz.underlying71;simp[part,isAgg,u]
theorem part_data (xs:Array Value)(off:Nat)(w:World):(part 75 xs off).run Tryz.prog w=.ok (.agg (xs.extract off (off+2))) w:=by
 have u:=run_underlying (w:=w) Tryz.underlying75;simp[part,isAgg,u]
theorem part_dir (xs:Array Value)(off:Nat)(w:World):(part 72 xs off).run Tryz.prog w=.ok (.agg (xs.extract off (off+12))) w:=by
 have u:=run_underlying (w:=w) Tryz.underlying72;simp[part,isAgg,u]
theorem fH (xs:Array Value)(off:Nat)(w:World):(part 69 xs off).run Tryz.prog w=.ok (.agg (xs.extract off (off+40))) w:=by
 have u:=run_underlying (w:=w) Tryz.underlying69;simp[part,isAgg,u]
theorem part_dirs (xs:Array Value)(off:Nat)(w:World):(part 73 xs off).run Tryz.prog w=.ok (.agg (xs.extract off (off+36))) w:=by
 have u:=run_underlying (w:=w) Tryz.underlying73;simp[part,isAgg,u]
theorem gg (xs:Array Value)(off:Nat)(w:World):(part 76 xs off).run Tryz.prog w=.ok (.agg (xs.extract off (off+18))) w:=by
 have u:=run_underlying (w:=w) Tryz.underlying76;simp[part,isAgg,u]
theorem cF {xs:Array Value}{a b j:Nat}{v:Value}(hj:a+j<b)(h:xs[a+j]? =some v):(xs.extract a b)[j]? =some v:=by
 have hs:a+j<xs.size:=(gW.1 h).1;rw[ie,if_pos om_];exact h
theorem cut5 {xs:Array Value}{o:Nat}{v0 v1 v2 v3 v4:Value}(h0:xs[o]? =some v0)(h1:xs[o+1]? =some v1)(h2:xs[o+2]? =some v2)(h3:xs[o+3]? =some v3)(h4:xs[o+4]? =some v4):xs.extract o (o+5)= #[v0,v1,v2,v3,v4]:=by
 have hs:o+4<xs.size:=(gW.1 h4).1;refine ir fun j=>?_;rw[ie];by_cases hj:j<5
 ·rw[if_pos om_];match j,hj with
  |0,_=>exact h0
  |1,_=>exact h1
  |2,_=>exact h2
  |3,_=>exact h3
  |4,_=>exact h4
 ·rw[if_neg om_,iv (by simp;omega)]
theorem cut3 {xs:Array Value}{o:Nat}{v0 v1 v2:Value}(h0:xs[o]? =some v0)(h1:xs[o+1]? =some v1)(h2:xs[o+2]? =some v2):xs.extract o (o+3)= #[v0,v1,v2]:=by
 have hs:o+2<xs.size:=(gW.1 h2).1;refine ir fun j=>?_;rw[ie];by_cases hj:j<3
 ·rw[if_pos om_];match j,hj with
  |0,_=>exact h0
  |1,_=>exact h1
  |2,_=>exact h2
 ·rw[if_neg om_,iv (by simp;omega)]
theorem cut2 {xs:Array Value}{o:Nat}{v0 v1:Value}(h0:xs[o]? =some v0)(h1:xs[o+1]? =some v1):xs.extract o (o+2)= #[v0,v1]:=by
 have hs:o+1<xs.size:=(gW.1 h1).1;refine ir fun j=>?_;rw[ie];by_cases hj:j<2
 ·rw[if_pos om_];match j,hj with
  |0,_=>exact h0
  |1,_=>exact h1
 ·rw[if_neg om_,iv (by simp;omega)]
theorem cells_ino:Tryz.prog.cellsOf 68=5:=kr_
theorem cells_ent:Tryz.prog.cellsOf 71=3:=kr_
theorem cells_dat:Tryz.prog.cellsOf 75=2:=kr_
theorem cells_dir:Tryz.prog.cellsOf 72=12:=kr_
theorem info_ino:∃i,Tryz.prog.info? 68=some i:=info_of_underlying Tryz.underlying68
theorem info_ent:∃i,Tryz.prog.info? 71=some i:=info_of_underlying Tryz.underlying71
theorem info_dat:∃i,Tryz.prog.info? 75=some i:=info_of_underlying Tryz.underlying75
theorem info_dir:∃i,Tryz.prog.info? 72=some i:=info_of_underlying Tryz.underlying72
variable {cs:Array Value}{m:Img}
def fieldT (f:Field):Bool×TypeId×Nat:=(f.name != "_",f.type,f.offset)
theorem gy:(Tryz.prog.fieldsOf 78).toList.map fieldT=[(true,69,0),(true,73,40),(true,76,76)]:=kr_
theorem img_stood:Tryz.prog.stoodInHeld 78=false:=kr_
end
section
open Go.RowKit
section
variable {P:Program}
def EqV (P:Program)(dd:Nat)(t:TypeId)(x y:Value)(v:Bool):Prop:=∀w,(Op.equalIn dd t x y).run P w=.ok v w
theorem dE (dd:Nat)(e:TypeId)(c:Nat)(xs ys:Array Value)(f:Nat→Bool):∀is:List Nat,(∀i∈is,∃a b,(∀w,(part e xs (i*c)).run P w=.ok a w)∧(∀w,(part e ys (i*c)).run P w=.ok b w)∧EqV P dd e a b (f i))→∀w,(Op.eqItems dd e c xs ys is).run P w=.ok (is.all f) w
 |[],_,w=>by simp[Op.eqItems]
 |i::is,h,w=>by
  obtain⟨a,b,h1,h2,h3⟩:=h i sp_;have ih:=dE dd e c xs ys f is (fun j hj=>h j (by simp[hj])) w;simp only[Op.eqItems,Sem.run_bind,h1,h2,h3 w,Result.andThen_ok,List.all_cons];cases f i
  ·simp
  ·simpa using ih
theorem gD (dd:Nat)(xs ys:Array Value)(g:Nat→Bool):∀fs:List Field,(∀f∈fs,f.name≠ "_"∧∃a b,(∀w,(part f.type xs f.offset).run P w=.ok a w)∧(∀w,(part f.type ys f.offset).run P w=.ok b w)∧EqV P dd f.type a b (g f.offset))→∀w,(Op.eqFields dd xs ys fs).run P w=.ok (fs.all fun f=>g f.offset) w
 |[],_,w=>by simp[Op.eqFields]
 |f::fs,h,w=>by
  obtain⟨hn,a,b,h1,h2,h3⟩:=h f sp_;have ih:=gD dd xs ys g fs (fun j hj=>h j (by simp[hj])) w;simp only[Op.eqFields,hn,ne_eq,not_false_eq_true,if_true,Sem.run_bind,h1,h2,h3 w,Result.andThen_ok,List.all_cons];cases g f.offset
  ·simp
  ·simpa using ih
end
namespace Img
def sameIno (a b:Img)(n:Nat):Bool:=a.live n==b.live n&&a.stamp n==b.stamp n&&a.links n==b.links n&&a.part n 0==b.part n 0&&a.part n 1==b.part n 1
def sameDat (a b:Img)(x:Nat):Bool:=a.of x==b.of x&&(a.text x).toList==(b.text x).toList
def sameDir (a b:Img)(d:Nat):Bool:=(List.range 4).all fun s=>sameEnt a b d s
def sameImg (a b:Img):Bool:=((List.range 8).all fun n=>sameIno a b n)&&((List.range 3).all fun d=>sameDir a b d)&&((List.range 9).all fun x=>sameDat a b x)
theorem same_iff {a b:Img}:sameImg a b=true↔Agree a b:=by
 unfold sameImg sameDir sameIno sameDat sameEnt;simp only[ik,iL,iH,beq_iff_eq];constructor
 ·rintro⟨⟨h1,h2⟩,h3⟩;refine⟨fun n hn=>(h1 n hn).1.1.1.1,fun n hn=>(h1 n hn).1.1.1.2,fun n hn=>(h1 n hn).1.1.2,fun n p hn hp=>?_,fun d s hd hs=>bytes_ext (h2 d hd s hs).1.1,fun d s hd hs=>(h2 d hd s hs).1.2,fun d s hd hs=>(h2 d hd s hs).2,fun x hx=>(h3 x hx).1,fun x hx=>bytes_ext (h3 x hx).2⟩;match p,hp with
  |0,_=>exact(h1 n hn).1.2
  |1,_=>exact(h1 n hn).2
 ·intro h;exact⟨⟨fun n hn=>⟨⟨⟨⟨h.live n hn,h.stamp n hn⟩,h.links n hn⟩,h.part n 0 hn om_⟩,h.part n 1 hn om_⟩,fun d hd s hs=>⟨⟨by rw[h.name d s hd hs],h.ino d s hd hs⟩,h.est d s hd hs⟩⟩,fun x hx=>⟨h.of x hx,by rw[h.text x hx]⟩⟩
end Img
theorem eqParts_v (d:Nat)(a b c e:Int)(w:World):(Op.equalIn (d+2) 66 (.agg #[.int .i64 a,.int .i64 b]) (.agg #[.int .i64 c,.int .i64 e])).run Tryz.prog w=.ok (a==c&&b==e) w:=by
 have u3:=Tryz.underlying3;have a3:=Tryz.isAgg3;have z3:=Tryz.sizeOf3;rw[show d+2=(d+1)+1 from rfl,Op.equalIn];simp only[Sem.run_bind,run_underlying Tryz.underlying66,Result.andThen_ok];simp only[Std.Legacy.Range.forIn_eq_forIn_range',Std.Legacy.Range.size,Nat.sub_zero,Nat.add_sub_cancel,Nat.div_one,List.range'_succ,List.range'_zero,List.forIn_cons,List.forIn_nil];cases h1:a==c<;>cases h2:b==e<;>(go_simp;try simp_all)
def inoB (i j:Ino):Bool:=i.live==j.live&&i.stamp==j.stamp&&i.links==j.links&&i.p0==j.p0&&i.p1==j.p1
theorem eqIno_v (d:Nat)(i j:Ino):EqV Tryz.prog (d+3) 68 (cU i) (cU j) (inoB i j):=by
 intro w;have u1:=Tryz.underlying3;have u2:=Tryz.underlying4;have q:=eqParts_v d;unfold cU inoB;rw[show d+3=(d+2)+1 from rfl];go_simp;cases h1:i.live==j.live<;>cases h2:i.stamp==j.stamp<;>cases h3:i.links==j.links<;>cases h4:i.p0==j.p0<;>cases h5:i.p1==j.p1<;>simp_all
theorem eqEnt_v (d:Nat)(e f:Ent):EqV Tryz.prog (d+2) 71 (cq e) (cq f) (e.name.toList==f.name.toList&&e.ino==f.ino&&e.est==f.est):=by
 intro w;have u1:=Tryz.underlying3;have u2:=Tryz.underlying9;unfold cq;rw[show d+2=(d+1)+1 from rfl];go_simp;cases h1:e.name.toList==f.name.toList<;>cases h2:e.ino==f.ino<;>cases h3:e.est==f.est<;>simp_all
theorem eqDat_v (d:Nat)(o p:Int)(t u:ByteArray):EqV Tryz.prog (d+2) 75 (.agg #[.int .i64 o,.string t]) (.agg #[.int .i64 p,.string u]) (o==p&&t.toList==u.toList):=by
 intro w;have u1:=Tryz.underlying3;have u2:=Tryz.underlying9;rw[show d+2=(d+1)+1 from rfl];go_simp;cases h1:o==p<;>cases h2:t.toList==u.toList<;>simp_all
section
variable {cs ds:Array Value}{m k:Img}
theorem cutIno (h:ag cs m){n:Nat}(hn:n<8):(cs.extract 0 (0+40)).extract (n*5) (n*5+5)= #[.bool (m.live n),.int .i64 (m.stamp n),.int .i64 (m.links n),.int .i64 (m.part n 0),.int .i64 (m.part n 1)]:=
 cut5 (cF om_ (by rw[hY];exact h.live n hn)) (cF om_ (by rw[hY];exact h.stamp n hn)) (cF om_ (by rw[hY];exact h.links n hn)) (cF om_ (by rw[hY];exact h.part n 0 hn om_)) (cF om_ (by rw[hY];exact h.part n 1 hn om_))
theorem eqInos_v (h:ag cs m)(h':ag ds k)(d:Nat):EqV Tryz.prog (d+4) 69 (.agg (cs.extract 0 (0+40))) (.agg (ds.extract 0 (0+40))) ((List.range 8).all fun n=>Img.sameIno m k n):=by
 intro w;obtain⟨i,hi⟩:=info_ino;rw[show d+4=(d+3)+1 from rfl,run_equalIn_array w (d+3) _ _ Tryz.underlying69 hi,cells_ino];refine dE _ _ _ _ _ _ _ (fun n hn=>?_) w;have hn8:n<8:=iH.1 hn;refine⟨_,_,f_ _ _,f_ _ _,?_⟩;rw[cutIno h hn8,cutIno h' hn8];exact eqIno_v d (m.inode n) (k.inode n)
theorem cutEnt (h:ag cs m){e s:Nat}(hd:e<3)(hs4:s<4):((cs.extract 40 (40+36)).extract (e*12) (e*12+12)).extract (s*3) (s*3+3)= #[.string (m.name e s),.int .i64 (m.ino e s),.int .i64 (m.est e s)]:=
 cut3 (cF om_ (cF om_ (by rw[←ix];exact h.name e s hd hs4))) (cF om_ (cF om_ (by rw[←ix,←ix];exact h.ino e s hd hs4))) (cF om_ (cF om_ (by rw[←ix,←ix];exact h.est e s hd hs4)))
theorem eqDir_v (h:ag cs m)(h':ag ds k)(d e:Nat)(hd:e<3):EqV Tryz.prog (d+3) 72 (.agg ((cs.extract 40 (40+36)).extract (e*12) (e*12+12))) (.agg ((ds.extract 40 (40+36)).extract (e*12) (e*12+12))) (Img.sameDir m k e):=by
 intro w;obtain⟨i,hi⟩:=info_ent;rw[show d+3=(d+2)+1 from rfl,run_equalIn_array w (d+2) _ _ Tryz.underlying72 hi,cells_ent];refine dE _ _ _ _ _ _ _ (fun s hs=>?_) w;have hs4:s<4:=iH.1 hs;refine⟨_,_,ga _ _,ga _ _,?_⟩;rw[cutEnt h hd hs4,cutEnt h' hd hs4];exact eqEnt_v d (m.entry e s) (k.entry e s)
theorem eqDirs_v (h:ag cs m)(h':ag ds k)(d:Nat):EqV Tryz.prog (d+4) 73 (.agg (cs.extract 40 (40+36))) (.agg (ds.extract 40 (40+36))) ((List.range 3).all fun e=>Img.sameDir m k e):=by
 intro w;obtain⟨i,hi⟩:=info_dir;rw[show d+4=(d+3)+1 from rfl,run_equalIn_array w (d+3) _ _ Tryz.underlying73 hi,cells_dir];refine dE _ _ _ _ _ _ _ (fun e he=>?_) w;exact⟨_,_,part_dir _ _,part_dir _ _,eqDir_v h h' d e (iH.1 he)⟩
theorem cutDat (h:ag cs m){x:Nat}(hx9:x<9):(cs.extract 76 (76+18)).extract (x*2) (x*2+2)= #[.int .i64 (m.of x),.string (m.text x)]:=
 cut2 (cF om_ (h.of x hx9)) (cF om_ (by rw[←ix];exact h.text x hx9))
theorem eqDatas_v (h:ag cs m)(h':ag ds k)(d:Nat):EqV Tryz.prog (d+4) 76 (.agg (cs.extract 76 (76+18))) (.agg (ds.extract 76 (76+18))) ((List.range 9).all fun x=>Img.sameDat m k x):=by
 intro w;obtain⟨i,hi⟩:=info_dat;rw[show d+4=(d+3)+1 from rfl,run_equalIn_array w (d+3) _ _ Tryz.underlying76 hi,cells_dat];refine dE _ _ _ _ _ _ _ (fun x hx=>?_) w;have hx9:x<9:=iH.1 hx;refine⟨_,_,part_data _ _,part_data _ _,?_⟩;rw[cutDat h hx9,cutDat h' hx9];exact eqDat_v (d+1) _ _ _ _
def partB (m k:Img)(o:Nat):Bool:=if o=0 then(List.range 8).all fun n=>Img.sameIno m k n else if o=40 then(List.range 3).all fun d=>Img.sameDir m k d else(List.range 9).all fun x=>Img.sameDat m k x
theorem img_all (m k:Img):((Tryz.prog.fieldsOf 78).toList.all fun f=>partB m k f.offset)=Img.sameImg m k:=by
 have e:((Tryz.prog.fieldsOf 78).toList.all fun f=>partB m k f.offset)=(((Tryz.prog.fieldsOf 78).toList.map fieldT).all fun p=>partB m k p.2.2):=by
  rw[List.all_map];rfl
 rw[e,gy];simp[partB,Img.sameImg,Bool.and_assoc]
theorem eqImg_v (h:ag cs m)(h':ag ds k)(w:World):(Op.equalIn 10000 78 (.agg cs) (.agg ds)).run Tryz.prog w=.ok (Img.sameImg m k) w:=by
 rw[show(10000:Nat)=9999+1 from rfl,run_equalIn_struct w 9999 78 cs ds ak img_stood,←img_all];refine gD _ _ _ (partB m k) _ (fun f hf=>?_) w;have hm:=List.mem_map_of_mem (f:=fieldT) hf;rw[gy]at hm;simp only[ic,iA,or_false,fieldT,Prod.mk.injEq,bne_iff_ne]at hm;rcases hm with⟨a1,a2,a3⟩|⟨a1,a2,a3⟩|⟨a1,a2,a3⟩
 ·exact⟨a1,_,_,by rw[a2,a3];exact fH _ _,by rw[a2,a3];exact fH _ _,by rw[a2,a3];exact eqInos_v h h' 9995⟩
 ·exact⟨a1,_,_,by rw[a2,a3];exact part_dirs _ _,by rw[a2,a3];exact part_dirs _ _,by rw[a2,a3];exact eqDirs_v h h' 9995⟩
 ·exact⟨a1,_,_,by rw[a2,a3];exact gg _ _,by rw[a2,a3];exact gg _ _,by rw[a2,a3];exact eqDatas_v h h' 9995⟩
theorem eqlImg (h:ag cs m)(h':ag ds k)(w:World):(binOp .eql 78 (.agg cs) (.agg ds)).run Tryz.prog w=.ok (.bool (Img.sameImg m k)) w:=by
 rw[run_eql_struct,eqImg_v h h'];rfl
theorem neqlImg (h:ag cs m)(h':ag ds k)(w:World):(binOp .neq 78 (.agg cs) (.agg ds)).run Tryz.prog w=.ok (.bool (!Img.sameImg m k)) w:=by
 rw[run_neq_struct,eqImg_v h h'];rfl
theorem neqlInode (i j:Ino)(w:World):(binOp .neq 68 (cU i) (cU j)).run Tryz.prog w=.ok (.bool (!inoB i j)) w:=by
 unfold cU;rw[run_neq_struct];have:=eqIno_v 9997 i j w;unfold cU at this;rw[this];rfl
theorem neqlDat (o p:Int)(t u:ByteArray)(w:World):(binOp .neq 75 (.agg #[.int .i64 o,.string t]) (.agg #[.int .i64 p,.string u])).run Tryz.prog w=.ok (.bool (!(o==p&&t.toList==u.toList))) w:=by
 rw[run_neq_struct,eqDat_v 9998 o p t u w];rfl
theorem neqlDir (h:ag cs m)(h':ag ds k){e:Nat}(hd:e<3)(w:World):(binOp .neq 72 (.agg ((cs.extract 40 (40+36)).extract (e*12) (e*12+12))) (.agg ((ds.extract 40 (40+36)).extract (e*12) (e*12+12)))).run Tryz.prog w=.ok (.bool (!Img.sameDir m k e)) w:=by
 rw[run_neq_struct,eqDir_v h h' 9997 e hd w];rfl
end
end
section
namespace Img
def down (now disk:Img):Nat→Img
 |0=>disk
 |b+1=>down now (write now disk (b:Int)) b
def syn (now:Img):Nat→Img→Nat×Img
 |0,disk=>(0,disk)
 |f+1,disk=>if sameImg now disk=true then(0,disk)else((syn now f (down now disk 14)).1+1,(syn now f (down now disk 14)).2)
theorem syn_step {now disk:Img}{f:Nat}(h:sameImg now disk=false):syn now (f+1) disk=((syn now f (down now disk 14)).1+1,(syn now f (down now disk 14)).2):=by
 show(if sameImg now disk=true then _ else _)=_;rw[if_neg (by rw[h];simp)]
theorem syn_stop {now disk:Img}{f:Nat}(h:sameImg now disk=true):syn now f disk=(0,disk):=by
 cases f
 ·rfl
 ·show(if sameImg now disk=true then _ else _)=_;rw[if_pos h]
def freeIno (now disk:Img):Int:=firstI (fun n=> !now.live n&&(disk.refs (n:Int)==0)) 8
def freeSlot (now disk:Img)(d:Int):Int:=if 0≤d∧d<3 then firstI (fun s=> !now.named d.toNat s&& !disk.named d.toNat s) 4 else-1
def freeData (now disk:Img):Int:=firstI (fun x=> !now.holds (x:Int)&& !disk.holds (x:Int)) 9
def dirty (now disk:Img)(b:Int):Bool:=
 if inB b=false then false
 else if b<2 then !(List.range 4).all fun j=>sameIno now disk (b.toNat*4+j)
 else if b<5 then !sameDir now disk (b.toNat-2)
 else !sameDat now disk (b.toNat-5)
theorem dirty_out {now disk:Img}{b:Int}(h:inB b=false):dirty now disk b=false:=if_pos h
theorem dirty_ino {now disk:Img}{k:Nat}(h:k<2):dirty now disk (k:Int)= !(List.range 4).all fun j=>sameIno now disk (k*4+j):=by
 have e:inB (k:Int)=true:=by simp[inB];omega
 unfold dirty;rw[e,if_neg sp_,if_pos om_,g_]
theorem dirty_dir {now disk:Img}{d:Nat}(h:d<3):dirty now disk ((d+2:Nat):Int)= !sameDir now disk d:=by
 have e:inB ((d+2:Nat):Int)=true:=by simp[inB];omega
 unfold dirty;rw[e,if_neg sp_,if_neg om_,if_pos om_,g_];rfl
theorem dirty_data {now disk:Img}{x:Nat}(h:x<9):dirty now disk ((x+5:Nat):Int)= !sameDat now disk x:=by
 have e:inB ((x+5:Nat):Int)=true:=by simp[inB];omega
 unfold dirty;rw[e,if_neg sp_,if_neg om_,if_neg om_,g_];rfl
end Img
end
section
namespace Img
open Idl (Stp chk)
def inoOf (m:Img)(d:Int)(s:ByteArray):Int:=if m.findAt d s.toList<0 then-1 else m.ino d.toNat (m.findAt d s.toList).toNat
def noPlace (now disk:Img)(d:Int)(s:ByteArray):Bool:=decide (freeSlot now disk d<0)||decide (0≤disk.findAt d s.toList)
def scheck (now:Img)(x:Stp):Int:=
 if chk x≠0 then chk x
 else if x.kind=1 then(if 0≤inoOf now x.dir x.name then 4 else 0)
 else if inoOf now x.dir x.name<0 then 5
 else if(x.kind=2∨x.kind=4)∧0≤inoOf now x.toDir x.to then 4 else 0
def sfull (now disk:Img)(x:Stp):Bool:=
 if x.kind=1 then decide (freeIno now disk<0)||noPlace now disk x.dir x.name
 else if x.kind=2∨x.kind=4 then noPlace now disk x.toDir x.to
 else if x.kind=5 then decide (now.part (inoOf now x.dir x.name).toNat x.p.toNat<0)&&decide (freeData now disk<0)
 else false
def scode (now disk:Img)(x:Stp):Int:=if scheck now x≠0 then scheck now x else if sfull now disk x=true then 6 else 0
def started (now disk:Img)(last:Int):Img:=now.putIno (freeIno now disk).toNat ⟨true,last+1,0,-1,-1⟩
def added (now disk:Img)(d:Int)(s:ByteArray)(n:Nat):Img:=
 (now.putEnt d.toNat (freeSlot now disk d).toNat ⟨s,(n:Int),now.stamp n⟩).putIno n ⟨now.live n,now.stamp n,now.links n+1,now.part n 0,now.part n 1⟩
def dropped1 (now:Img)(d:Int)(s:ByteArray):Img:=
 (now.clear d.toNat (now.findAt d s.toList).toNat).putIno (inoOf now d s).toNat ⟨now.live (inoOf now d s).toNat,now.stamp (inoOf now d s).toNat,now.links (inoOf now d s).toNat-1,now.part (inoOf now d s).toNat 0,now.part (inoOf now d s).toNat 1⟩
def dropped (now:Img)(d:Int)(s:ByteArray):Img:=
 if(dropped1 now d s).refs (inoOf now d s)=0 then(dropped1 now d s).putIno (inoOf now d s).toNat Ino.none else dropped1 now d s
def setPart (m:Img)(n p:Nat)(v:Int):Img:=m.putIno n ⟨m.live n,m.stamp n,m.links n,if p=0 then v else m.part n 0,if p=1 then v else m.part n 1⟩
def putPart (now disk:Img)(n p:Nat)(t:ByteArray):Img:=
 let m:=if now.part n p<0 then now.setPart n p (freeData now disk)else now
 m.putData (m.part n p).toNat (m.stamp n) t
def sstep (now disk:Img)(last:Int)(x:Stp):Img:=
 if scode now disk x≠0 then now
 else if x.kind=1 then added (started now disk last) disk x.dir x.name (freeIno now disk).toNat
 else if x.kind=2 then added now disk x.toDir x.to (inoOf now x.dir x.name).toNat
 else if x.kind=3 then dropped now x.dir x.name
 else if x.kind=4 then dropped (added now disk x.toDir x.to (inoOf now x.dir x.name).toNat) x.dir x.name
 else if x.kind=5 then putPart now disk (inoOf now x.dir x.name).toNat x.p.toNat x.text
 else now.setPart (inoOf now x.dir x.name).toNat x.p.toNat (-1)
def slast (now disk:Img)(last:Int)(x:Stp):Int:=if scode now disk x=0∧x.kind=1 then last+1 else last
structure Good (now:Img)(last:Int):Prop where
 ex:Ex now
 lo:0≤last
 last:∀n,n<8→now.live n=true→now.stamp n≤last
variable {now disk:Img}{last:Int}
theorem findAt_none {m:Img}{d:Int}{s:ByteArray}(h:m.findAt d s.toList<0)(hd:0≤d∧d<3)(hs:s.toList.isEmpty=false):∀t,t<4→(m.name d.toNat t).toList≠s.toList:=by
 unfold findAt at h;rw[if_pos ⟨hd.1,hd.2,hs⟩]at h;unfold find at h;rcases firstI_cases (fun t=>(m.name d.toNat t).toList==s.toList) 4 with⟨_,h2⟩|⟨k,hk,h1,_⟩
 ·intro t ht e;have:=h2 t ht;simp[e]at this
 ·rw[h1]at h;omega
theorem findAt_some {m:Img}{d:Int}{s:ByteArray}(h:0≤m.findAt d s.toList):(0≤d∧d<3)∧s.toList.isEmpty=false∧∃k:Nat,k<4∧m.findAt d s.toList=(k:Int)∧m.name d.toNat k=s∧m.named d.toNat k=true:=by
 unfold findAt at h⊢;by_cases c:0≤d∧d<3∧s.toList.isEmpty=false
 ·rw[if_pos c]at h⊢;unfold find at h⊢;rcases firstI_cases (fun t=>(m.name d.toNat t).toList==s.toList) 4 with⟨h1,_⟩|⟨k,hk,h1,h2,_⟩
  ·rw[h1]at h;omega
  ·have e:(m.name d.toNat k).toList=s.toList:=by simpa using h2
   refine⟨⟨c.1,c.2.1⟩,c.2.2,k,hk,h1,bytes_ext e,?_⟩;unfold named;rw[e,c.2.2];rfl
 ·rw[if_neg c]at h;omega
theorem inoOf_neg {m:Img}(hm:m.check=0){d:Int}{s:ByteArray}:inoOf m d s<0↔m.findAt d s.toList<0:=by
 unfold inoOf;by_cases h:m.findAt d s.toList<0
 ·rw[if_pos h];simp[h]
 ·rw[if_neg h];obtain⟨hd,_,k,hk,e,_,hn⟩:=findAt_some (Int.not_lt.1 h);have ok:=(slot_ok hn).1 ((well_iff.1 hm).slot d.toNat k om_ hk);have:=ok.lo;rw[e,g_];constructor
  ·intro z;omega
  ·intro z;omega
structure There (m:Img)(d:Int)(s:ByteArray)(k n:Nat):Prop where
 d0:0≤d
 d3:d<3
 ne:s.toList.isEmpty=false
 k4:k<4
 at_:m.findAt d s.toList=(k:Int)
 nm:m.name d.toNat k=s
 named:m.named d.toNat k=true
 ino:m.ino d.toNat k=(n:Int)
 n8:n<8
 live:m.live n=true
 stamp:m.stamp n=m.est d.toNat k
 of:inoOf m d s=(n:Int)
theorem there {m:Img}(hm:m.check=0){d:Int}{s:ByteArray}(h:0≤inoOf m d s):∃k n,There m d s k n:=by
 have h0:0≤m.findAt d s.toList:=by
  have:=inoOf_neg hm (d:=d) (s:=s);omega
 obtain⟨hd,hs,k,hk,e,hnm,hn⟩:=findAt_some h0;have ok:=(slot_ok hn).1 ((well_iff.1 hm).slot d.toNat k om_ hk);obtain⟨n,hi⟩:=hU ok.lo;have h1:=ok.hi;have h2:=ok.live;have h3:=ok.stamp;rw[hi,g_]at h2 h3;have hi':m.ino d.toNat k=(n:Int):=hi;refine⟨k,n,hd.1,hd.2,hs,hk,e,hnm,hn,hi',om_,h2,h3,?_⟩;unfold inoOf;rw[if_neg om_,e,g_,hi']
structure SlotAt (now disk:Img)(d:Int)(s:Nat):Prop where
 d0:0≤d
 d3:d<3
 s4:s<4
 eq:freeSlot now disk d=(s:Int)
 now:now.named d.toNat s=false
 disk:disk.named d.toNat s=false
theorem slotAt {d':Int}(h:¬freeSlot now disk d'<0):∃s,SlotAt now disk d' s:=by
 unfold freeSlot at h;by_cases c:0≤d'∧d'<3
 ·rw[if_pos c]at h;rcases firstI_cases (fun s=> !now.named d'.toNat s&& !disk.named d'.toNat s) 4 with⟨h1,_⟩|⟨k,hk,h1,h2,_⟩
  ·rw[h1]at h;omega
  ·simp at h2;exact⟨k,c.1,c.2,hk,by unfold freeSlot;rw[if_pos c];exact h1,h2.1,h2.2⟩
 ·rw[if_neg c]at h;omega
theorem inoAt (h:¬freeIno now disk<0):∃n:Nat,n<8∧freeIno now disk=(n:Int)∧now.live n=false∧disk.refs (n:Int)=0:=by
 unfold freeIno at h⊢;rcases firstI_cases (fun n=> !now.live n&&(disk.refs (n:Int)==0)) 8 with⟨h1,_⟩|⟨k,hk,h1,h2,_⟩
 ·rw[h1]at h;omega
 ·simp at h2;exact⟨k,hk,h1,h2.1,h2.2⟩
theorem dataAt (h:¬freeData now disk<0):∃x:Nat,x<9∧freeData now disk=(x:Int)∧now.holds (x:Int)=false∧disk.holds (x:Int)=false:=by
 unfold freeData at h⊢;rcases firstI_cases (fun x=> !now.holds (x:Int)&& !disk.holds (x:Int)) 9 with⟨h1,_⟩|⟨k,hk,h1,h2,_⟩
 ·rw[h1]at h;omega
 ·simp at h2;exact⟨k,hk,h1,h2.1,h2.2⟩
theorem holds_not {m:Img}{x:Nat}(hx:x<9)(h:m.holds (x:Int)=false){n p:Nat}(hn:n<8)(hp:p<2)(hl:m.live n=true):m.part n p≠(x:Int):=by
 unfold holds at h;have hD:isD (x:Int)=true:=by simp[isD];omega
 rw[hD,Bool.true_and,anyB_false]at h;have:=h n hn;rw[hl,Bool.true_and]at this;unfold hasPart at this;rw[iQ]at this;match p,hp with
 |0,_=>simpa using this.1
 |1,_=>simpa using this.2
theorem part_ne {m:Img}(hm:m.check=0){n p k q:Nat}(hn:n<8)(hp:p<2)(hk:k<8)(hq:q<2)(hne:¬(n=k∧p=q))(hl:m.live n=true)(hlk:m.live k=true)(hD:isD (m.part n p)=true):m.part k q≠m.part n p:=by
 have e1:m.pa (2*n+p)=m.part n p:=by
  rw[pa_of_live (by rw[show(2*n+p)/2=n by omega];exact hl),show(2*n+p)/2=n by omega,show(2*n+p)%2=p by omega]
 have e2:m.pa (2*k+q)=m.part k q:=by
  rw[pa_of_live (by rw[show(2*k+q)/2=k by omega];exact hlk),show(2*k+q)/2=k by omega,show(2*k+q)%2=q by omega]
 rw[←e1,←e2];exact datas_ne (well_iff.1 hm).datas om_ om_ om_ (by rw[e1];exact hD)
theorem putLinks_check {m:Img}(hm:m.check=0){n:Nat}(hn:n<8)(hl:m.live n=true)(v:Int)(hv:(m.refs n:Int)≤v):(m.putIno n ⟨m.live n,m.stamp n,v,m.part n 0,m.part n 1⟩).check=0:=by
 have ok:=inode_parts_ok hm hn hl;refine putIno_check hm _ (.inr ⟨hl,ok.1,hv,fun p hp=>?_⟩) (fun d' s' _ _ _=>⟨hl,rfl⟩) (fun _ k hk hne hlk=>stamps_ne (well_iff.1 hm).stamps hk hn hne hlk hl) (fun _ k q p hk hq hp hne hlk hD=>?_) (fun _ hD=>?_)
 ·match p,hp with
  |0,_=>exact ok.2.2 0 om_
  |1,_=>exact ok.2.2 1 om_
 ·match p,hp with
  |0,_=>exact part_ne hm hn om_ hk hq om_ hl hlk hD
  |1,_=>exact part_ne hm hn om_ hk hq om_ hl hlk hD
 ·exact fun z=>part_ne hm hn (show 0<2 by omega) hn (show 1<2 by omega) om_ hl hl hD z.symm
theorem added_ex (hm:now.check=0){d:Int}{s:ByteArray}{n k:Nat}(hS:SlotAt now disk d k)(hn:n<8)(hl:now.live n=true)(hnm:isNmB s.toList=true)(ha:∀t,t<4→(now.name d.toNat t).toList≠s.toList)
 (hk:∀j,j<8→now.live j=true→now.links j=(now.refs j:Int)) (h1:∀j,j<8→j≠n→now.live j=true→1≤now.links j):Ex (added now disk d s n):=by
 have hrefs:∀ino:Int,(added now disk d s n).refs ino=now.refs ino+b2n ((n:Int)==ino):=fun ino=>by
  unfold added;rw[putIno_refs];have:=putEnt_refs now (d:=d.toNat) (s:=(freeSlot now disk d).toNat) ⟨s,(n:Int),now.stamp n⟩ ino (by have:=hS.d0;have:=hS.d3;omega) (by rw[hS.eq];have:=hS.s4;omega);rw[hS.eq,g_,show now.leads ino d.toNat k=false by unfold leads;rw[hS.now];rfl]at this;have hne:s.toList.isEmpty=false:=by
   cases hl:s.toList
   ·rw[hl]at hnm;simp[isNmB]at hnm
   ·rfl
  rw[show Ent.leads ⟨s,(n:Int),now.stamp n⟩ ino=((n:Int)==ino)by unfold Ent.leads;rw[hne];rfl]at this;rw[hS.eq,g_];simpa[b2n]using this
 have hlv:∀j,(added now disk d s n).live j=now.live j:=fun j=>by
  show(if j=n then now.live n else now.live j)=_;by_cases e:j=n
  ·rw[if_pos e,e]
  ·rw[if_neg e]
 have hlk:∀j,(added now disk d s n).links j=if j=n then now.links n+1 else now.links j:=fun j=>rfl
 refine⟨?_,fun j hj hlj=>?_⟩
 ·
  have c1:=putLinks_check hm hn hl (now.links n+1) (by have:=(inode_parts_ok hm hn hl).2.1;omega)
  have c2:=come_check c1 (d:=d.toNat) (s:=k) ⟨s,(n:Int),now.stamp n⟩ (by have:=hS.d0;have:=hS.d3;omega) hS.s4 hS.now hnm (by
   unfold mayCome;have e1:isI (n:Int)=true:=by simp[isI];omega
   have ok:=inode_parts_ok hm hn hl;simp only[e1,Bool.true_and,g_,putIno_refs,putIno_live,putIno_stamp,putIno_links,if_true,hl,beq_self_eq_true];simp;omega) (fun t ht _=>ha t ht)
  unfold added
  rw[hS.eq,g_]
  exact c2
 ·rw[hlv]at hlj;rw[hlk,hrefs];by_cases e:j=n
  ·subst e;rw[if_pos rfl];have:=hk j hj hlj;simp[b2n];omega
  ·rw[if_neg e];have:=hk j hj hlj;have:=h1 j hj e hlj;have:b2n ((n:Int)==(j:Int))=0:=by
    have:((n:Int)==(j:Int))=false:=by simp;omega
    rw[this];rfl
   omega
theorem dropped_ex (hx:Ex now){d:Int}{s:ByteArray}{k n:Nat}(hT:There now d s k n):Ex (dropped now d s):=by
 have hd3:d.toNat<3:=by have:=hT.d0;have:=hT.d3;omega
 have c0:=clear_check hx.ok hd3 hT.k4;have hlead:now.leads (n:Int) d.toNat k=true:=slot_leads hT.named hT.ino;have r1:=clear_refs_yes (m:=now) (n:Int) hd3 hT.k4 hlead;have r2:∀j:Nat,j≠n→(now.clear d.toNat k).refs (j:Int)=now.refs (j:Int):=fun j hj=>clear_refs_not (j:Int) (by
  unfold leads;rw[hT.ino];have:((n:Int)==(j:Int))=false:=by simp;omega
  rw[this];simp)
 have hl0:(now.clear d.toNat k).live n=true:=hT.live;have lk:=hx.links n hT.n8 hT.live;have c1:=putLinks_check c0 hT.n8 hl0 (now.links n-1) om_;have e1:dropped1 now d s=(now.clear d.toNat k).putIno n ⟨(now.clear d.toNat k).live n,(now.clear d.toNat k).stamp n,now.links n-1,(now.clear d.toNat k).part n 0,(now.clear d.toNat k).part n 1⟩:=by
  unfold dropped1;rw[hT.of,hT.at_,g_,g_];rfl
 rw[←e1]at c1;have er:∀j:Int,(dropped1 now d s).refs j=(now.clear d.toNat k).refs j:=fun j=>by rw[e1,putIno_refs]
 have ev:∀j,(dropped1 now d s).live j=now.live j:=fun j=>by
  rw[e1,putIno_live];by_cases e:j=n
  ·rw[if_pos e,e];rfl
  ·rw[if_neg e];rfl
 have el:∀j,(dropped1 now d s).links j=if j=n then now.links n-1 else now.links j:=fun j=>by rw[e1];rfl
 unfold dropped;rw[hT.of,er,g_];by_cases z:(now.clear d.toNat k).refs (n:Int)=0
 ·rw[if_pos z];refine⟨putIno_check c1 _ (.inl rfl) (fun d' s' hd' hs' hl=>?_) (fun h=>by cases h) (fun h=>by cases h) (fun h=>by cases h),fun j hj hlj=>?_⟩
  ·have:=refs_pos_of_leads hd' hs' hl;rw[er]at this;omega
  ·rw[putIno_live]at hlj;by_cases e:j=n
   ·rw[if_pos e]at hlj;cases hlj
   ·rw[if_neg e,ev]at hlj;rw[putIno_links,if_neg e,putIno_refs,er,el,if_neg e,r2 j e];exact hx.links j hj hlj
 ·rw[if_neg z];refine⟨c1,fun j hj hlj=>?_⟩;rw[ev]at hlj;rw[el,er];by_cases e:j=n
  ·subst e;rw[if_pos rfl];omega
  ·rw[if_neg e,r2 j e];exact hx.links j hj hlj
theorem setPart_ex (hx:Ex now){n p:Nat}(hn:n<8)(hp:p<2)(hl:now.live n=true)(v:Int)(hv:v= -1∨(isD v=true∧now.of v.toNat=now.stamp n∧∀k q,k<8→q<2→now.live k=true→now.part k q≠v)):Ex (now.setPart n p v):=by
 have hm:=hx.ok;have ok:=inode_parts_ok hm hn hl;have hlv:∀j,(now.setPart n p v).live j=now.live j:=fun j=>by
  unfold setPart;rw[putIno_live];by_cases e:j=n
  ·rw[if_pos e,e]
  ·rw[if_neg e]
 have hlk:∀j,(now.setPart n p v).links j=now.links j:=fun j=>by
  unfold setPart;rw[putIno_links];by_cases e:j=n
  ·rw[if_pos e,e]
  ·rw[if_neg e]
 have hpp:∀q,q<2→Ino.part ⟨now.live n,now.stamp n,now.links n,if p=0 then v else now.part n 0,if p=1 then v else now.part n 1⟩ q=if q=p then v else now.part n q:=fun q hq=>by
  unfold Ino.part;match q,hq with
  |0,_=>by_cases e:p=0<;>simp[e];omega
  |1,_=>by_cases e:p=1<;>simp[e];omega
 refine⟨putIno_check hm _ (.inr ⟨hl,ok.1,ok.2.1,fun q hq=>?_⟩) (fun d' s' _ _ _=>⟨hl,rfl⟩) (fun _ k hk hne hlk=>stamps_ne (well_iff.1 hm).stamps hk hn hne hlk hl) (fun _ k q r hk hq hr hne hlk hD=>?_) (fun _ hD=>?_),fun j hj hlj=>?_⟩
 ·rw[hpp q hq];by_cases e:q=p
  ·rw[if_pos e,checkPart_iff];rcases hv with z|⟨z1,z2,_⟩
   ·exact .inl z
   ·exact .inr ⟨z1,z2⟩
  ·rw[if_neg e];exact ok.2.2 q hq
 ·rw[hpp r hr]at hD⊢;by_cases e:r=p
  ·rw[if_pos e]at hD⊢;rcases hv with z|⟨_,_,z3⟩
   ·rw[z]at hD;simp[isD]at hD
   ·exact z3 k q hk hq hlk
  ·rw[if_neg e]at hD⊢;exact part_ne hm hn hr hk hq om_ hl hlk hD
 ·have h0:=hpp 0 om_;have h1:=hpp 1 om_;have e0:Ino.part ⟨now.live n,now.stamp n,now.links n,if p=0 then v else now.part n 0,if p=1 then v else now.part n 1⟩ 0=(if p=0 then v else now.part n 0):=rfl;intro hE;have hE':(if p=0 then v else now.part n 0)=(if p=1 then v else now.part n 1):=hE;have hD':isD (if p=0 then v else now.part n 0)=true:=hD;by_cases e:p=0
  ·rw[if_pos e,if_neg om_]at hE';rw[if_pos e]at hD';rcases hv with z|⟨_,_,z3⟩
   ·rw[z]at hD';simp[isD]at hD'
   ·exact z3 n 1 hn om_ hl hE'.symm
  ·have e':p=1:=om_;rw[if_neg e,if_pos e']at hE';rw[if_neg e]at hD';rcases hv with z|⟨_,_,z3⟩
   ·rw[hE',z]at hD';simp[isD]at hD'
   ·exact z3 n 0 hn om_ hl hE'
 ·rw[hlv]at hlj;rw[hlk,show(now.setPart n p v).refs (j:Int)=now.refs (j:Int)from putIno_refs _ _ _ _];exact hx.links j hj hlj
theorem setPart_at {n p:Nat}(hp:p<2)(v:Int):(now.setPart n p v).part n p=v:=by
 unfold setPart;rw[putIno_part,if_pos rfl];match p,hp with
 |0,_=>rfl
 |1,_=>rfl
theorem putData_ex (hx:Ex now){x:Nat}(o:Int)(t:ByteArray)(h:∀n p,n<8→p<2→now.live n=true→now.part n p=(x:Int)→now.stamp n=o):Ex (now.putData x o t):=
 ⟨putData_check hx.ok o t h,fun n hn hl=>hx.links n hn hl⟩
theorem putPart_ex (hx:Ex now){n p:Nat}(hn:n<8)(hp:p<2)(hl:now.live n=true)(t:ByteArray)(hf:now.part n p<0→¬freeData now disk<0):Ex (putPart now disk n p t):=by
 unfold putPart;by_cases e:now.part n p<0
 ·obtain⟨x,hx9,ex,hh,_⟩:=dataAt (hf e);simp only[if_pos e,ex];rw[setPart_at hp,g_];have hst:(now.setPart n p (x:Int)).stamp n=now.stamp n:=if_pos rfl;rw[hst];have h1:=putData_ex hx (x:=x) (now.stamp n) t (fun k q hk hq hlk z=>absurd z (holds_not hx9 hh hk hq hlk));have h2:=setPart_ex h1 hn hp (show(now.putData x (now.stamp n) t).live n=true from hl) (x:Int) (.inr ⟨by simp[isD];omega,by
   show(if((x:Int)).toNat=x then now.stamp n else _)=now.stamp n;rw[if_pos sp_],fun k q hk hq hlk=>holds_not hx9 hh hk hq hlk⟩)
  exact h2
 ·simp only[if_neg e];have ok:=(checkPart_iff.1 ((inode_parts_ok hx.ok hn hl).2.2 p hp));rcases ok with z|⟨z1,z2⟩
  ·omega
  ·have hb:0≤now.part n p∧now.part n p<9:=by simpa[isD]using z1
   refine putData_ex hx _ t (fun k q hk hq hlk z=>?_);by_cases c:n=k∧p=q
   ·rw[c.1]
   ·exact absurd (by rw[z];omega) (part_ne hx.ok hn hp hk hq c hl hlk z1)
theorem started_check (hx:Ex now)(hlo:0≤last)(hla:∀n,n<8→now.live n=true→now.stamp n≤last){n:Nat}(hl:now.live n=false)(he:freeIno now disk=(n:Int)):(started now disk last).check=0:=by
 unfold started;rw[he,g_];have hr:=dead_refs hx.ok hl;refine putIno_check hx.ok _ (.inr ⟨rfl,by show 1≤last+1;omega,by rw[hr];exact Int.le_refl _,fun p hp=>?_⟩) (fun d s hd hs h=>?_) (fun _ k hk hne hlk=>?_) (fun _ k q p _ _ hp _ _ hD=>?_) (fun _ hD=>?_)
 ·match p,hp with
  |0,_=>rfl
  |1,_=>rfl
 ·have:=(slot_lead hx.ok hd hs h).2.1;rw[hl]at this;cases this
 ·have:=hla k hk hlk;show now.stamp k≠last+1;omega
 ·exfalso;match p,hp with
  |0,_=>simp[Ino.part,isD]at hD
  |1,_=>simp[Ino.part,isD]at hD
 ·simp[isD]at hD
theorem chk_names {x:Stp}(h:chk x=0):1≤x.kind∧x.kind≤6∧(0≤x.dir∧x.dir<3)∧isNmB x.name.toList=true∧((x.kind=2∨x.kind=4)→(0≤x.toDir∧x.toDir<3)∧isNmB x.to.toList=true)∧((x.kind=5∨x.kind=6)→0≤x.p∧x.p<2):=by
 obtain⟨a1,a2,a3,a4,a5,a6⟩:=Idl.chk_zero h;obtain⟨b1,b2⟩:=Idl.spot_zero a3;refine⟨a1,a2,Idl.isD_iff.1 b1,b2,fun h2=>?_,fun h5=>?_⟩
 ·obtain⟨c1,c2⟩:=Idl.spot_zero (a4 h2);exact⟨Idl.isD_iff.1 c1,c2⟩
 ·exact a5 h5
theorem nm_ne {s:ByteArray}(h:isNmB s.toList=true):s.toList.isEmpty=false:=by
 cases hl:s.toList
 ·rw[hl]at h;simp[isNmB]at h
 ·rfl
structure Take (now disk:Img)(x:Stp):Prop where
 chk:Idl.chk x=0
 k1:1≤x.kind
 k6:x.kind≤6
 dir:0≤x.dir∧x.dir<3
 name:isNmB x.name.toList=true
 to:(x.kind=2∨x.kind=4)→(0≤x.toDir∧x.toDir<3)∧isNmB x.to.toList=true
 part:(x.kind=5∨x.kind=6)→0≤x.p∧x.p<2
 new:x.kind=1→inoOf now x.dir x.name<0
 old:x.kind≠1→0≤inoOf now x.dir x.name
 new2:(x.kind=2∨x.kind=4)→inoOf now x.toDir x.to<0
 ino:x.kind=1→¬freeIno now disk<0
 slot:x.kind=1→¬freeSlot now disk x.dir<0∧disk.findAt x.dir x.name.toList<0
 slot2:(x.kind=2∨x.kind=4)→¬freeSlot now disk x.toDir<0∧disk.findAt x.toDir x.to.toList<0
 data:x.kind=5→now.part (inoOf now x.dir x.name).toNat x.p.toNat<0→¬freeData now disk<0
theorem take {x:Stp}(h:scode now disk x=0):Take now disk x:=by
 have h0:scheck now x=0:=by
  unfold scode at h;by_cases e:scheck now x=0
  ·exact e
  ·rw[if_pos e]at h;exact absurd h e
 have h1:sfull now disk x=false:=by
  unfold scode at h;rw[if_neg (by rw[h0];simp)]at h;cases e:sfull now disk x
  ·rfl
  ·rw[e]at h;simp at h
 have hc:chk x=0:=by
  unfold scheck at h0;by_cases e:chk x=0
  ·exact e
  ·rw[if_pos e]at h0;exact absurd h0 e
 obtain⟨a1,a2,a3,a4,a5,a6⟩:=chk_names hc;have hs:(x.kind=1→inoOf now x.dir x.name<0)∧(x.kind≠1→0≤inoOf now x.dir x.name)∧((x.kind=2∨x.kind=4)→inoOf now x.toDir x.to<0):=by
  unfold scheck at h0;rw[if_neg (by rw[hc];simp)]at h0;by_cases k1:x.kind=1
  ·rw[if_pos k1]at h0;refine⟨fun _=>?_,fun h=>absurd k1 h,fun h=>by omega⟩;by_cases z:0≤inoOf now x.dir x.name
   ·rw[if_pos z]at h0;simp at h0
   ·omega
  ·rw[if_neg k1]at h0;by_cases z:inoOf now x.dir x.name<0
   ·rw[if_pos z]at h0;simp at h0
   ·rw[if_neg z]at h0;refine⟨fun h=>absurd h k1,fun _=>by omega,fun h2=>?_⟩;by_cases y:0≤inoOf now x.toDir x.to
    ·rw[if_pos ⟨h2,y⟩]at h0;simp at h0
    ·omega
 have hp:∀d s,noPlace now disk d s=false→¬freeSlot now disk d<0∧disk.findAt d s.toList<0:=fun d s z=>by
  unfold noPlace at z;rw[iQ]at z;have z1:=z.1;have z2:=z.2;simp only[decide_eq_false_iff_not]at z1 z2;exact⟨z1,om_⟩
 refine⟨hc,a1,a2,a3,a4,a5,a6,hs.1,hs.2.1,hs.2.2,fun k=>?_,fun k=>?_,fun k=>?_,fun k hneg=>?_⟩
 ·unfold sfull at h1;rw[if_pos k,iQ]at h1;simpa using h1.1
 ·unfold sfull at h1;rw[if_pos k,iQ]at h1;exact hp _ _ h1.2
 ·unfold sfull at h1;rw[if_neg om_,if_pos k]at h1;exact hp _ _ h1
 ·unfold sfull at h1;rw[if_neg om_,if_neg om_,if_pos k,Bool.and_eq_false_iff]at h1;rcases h1 with z|z
  ·simp only[decide_eq_false_iff_not]at z;exact absurd hneg z
  ·simpa using z
theorem sstep_cases {x:Stp}(h:scode now disk x=0):
 (x.kind=1∧sstep now disk last x=added (started now disk last) disk x.dir x.name (freeIno now disk).toNat)∨(x.kind=2∧sstep now disk last x=added now disk x.toDir x.to (inoOf now x.dir x.name).toNat)∨
 (x.kind=3∧sstep now disk last x=dropped now x.dir x.name)∨(x.kind=4∧sstep now disk last x=dropped (added now disk x.toDir x.to (inoOf now x.dir x.name).toNat) x.dir x.name)∨
 (x.kind=5∧sstep now disk last x=putPart now disk (inoOf now x.dir x.name).toNat x.p.toNat x.text)∨(x.kind=6∧sstep now disk last x=now.setPart (inoOf now x.dir x.name).toNat x.p.toNat (-1)):=by
 have t:=take h;have k1:=t.k1;have k6:=t.k6;unfold sstep;rw[if_neg (by rw[h];simp)];have:x.kind=1∨x.kind=2∨x.kind=3∨x.kind=4∨x.kind=5∨x.kind=6:=om_;rcases this with k|k|k|k|k|k<;>simp[k]
end Img
end
section
open Go.RowKit
namespace Idl
structure Chg (own:Nat→Prop)(w w':World):Prop where
 os:w'.os=w.os
 tape:w'.tape=w.tape
 output:w'.output=w.output
 size:w.heap.size≤w'.heap.size
 block:∀k,k<w.heap.size→¬own k→w'.heap[k]? =w.heap[k]?
theorem Chg.of_below {own:Nat→Prop}{w w':World}(h:Below w.heap.size w w'):Chg own w w':=⟨h.os,h.tape,h.output,h.size,fun k hk _=>h.block k hk⟩
theorem Chg.trans {own own':Nat→Prop}{a b c:World}(h:Chg own a b)(k:Chg own' b c)(ho:∀i,own' i→own i∨a.heap.size≤i):Chg own a c:=
 ⟨k.os.trans h.os,k.tape.trans h.tape,k.output.trans h.output,h_ h.size k.size,fun i hi hn=>(k.block i (ij hi h.size) (fun ho'=>by rcases ho i ho' with h1|h1;exact hn h1;omega)).trans (h.block i hi hn)⟩
theorem Chg.below {own:Nat→Prop}{B:Nat}{w w':World}(h:Chg own w w')(hB:B≤w.heap.size)(ho:∀k,own k→B≤k):Below B w w':=
 ⟨h.os,h.tape,h.output,h.size,fun k hk=>h.block k om_ (fun hk'=>by have:=ho k hk';omega)⟩
theorem ownsRow_of_block {w w':World}{base:Nat}{e:TypeId}{size:Nat}{v:Value}{n:Nat}{xs:List Value}(h:w.ownsRow base e size v n xs)(hk:∀k,v.ownBlock=some k→w'.heap[k]? =w.heap[k]?):w'.ownsRow base e size v n xs:=by
 refine⟨h.1,?_⟩;rcases h.2 with hn|⟨g,cap,cur,rfl,hb,hg,rest⟩
 ·exact .inl hn
 ·exact .inr ⟨g,cap,cur,rfl,hb,by rw[hk g rfl];exact hg,rest⟩
end Idl
end
section
open Go.RowKit
namespace Idl
abbrev stpA (x:Stp):Array Value:= #[.int .i64 x.kind,.int .i64 x.dir,.int .i64 x.toDir,.int .i64 x.p,.string x.name,.string x.to,.string x.text]
theorem isDir_any (x:Int)(w:World):
 Calls Tryz.prog 226 #[.int .i64 x] w fun e w'=>e=.returned (.bool (isD x))∧w'=w:=by
 go_enter Tryz.func226,Tryz.ntmps226;go_wp2;all_goals
  go_ret
  refine⟨av ?_,rfl⟩
  simp[isD]
  try omega
theorem checkPlace_any (x:Int)(s:ByteArray)(hs:s.size≤maxLen)(w:World):
 Calls Tryz.prog 198 #[.int .i64 x,.string s] w fun e w'=>e=.returned (.int .i64 (spot x s))∧w'=w:=by
 cases h1:isD x
 ·have e:spot x s=1:=by simp[spot,h1]
  rw[e];clear e;have hc:=isDir_any x w;rw[h1]at hc;clear h1;go_enter Tryz.func198,Tryz.ntmps198;go_wp2_with(go_at_call 226;refine hc.mono ?_;rintro e w' ⟨rfl,rfl⟩);go_ret;exact⟨rfl,rfl⟩
 ·have hc:=isDir_any x w;rw[h1]at hc;cases h2:Img.isNmB s.toList
  ·have e:spot x s=2:=by simp[spot,h1,h2]
   rw[e];have hn:=cN s hs w;rw[h2]at hn;clear e h1 h2;go_enter Tryz.func198,Tryz.ntmps198;go_wp2_with(first
    |(go_at_call 226;refine hc.mono ?_;rintro e w' ⟨rfl,rfl⟩)
    |(go_at_call 221;refine hn.mono ?_;rintro e w' ⟨rfl,rfl⟩))
   go_ret;exact⟨rfl,rfl⟩
  ·have e:spot x s=0:=by simp[spot,h1,h2]
   rw[e];have hn:=cN s hs w;rw[h2]at hn;clear e h1 h2;go_enter Tryz.func198,Tryz.ntmps198;go_wp2_with(first
    |(go_at_call 226;refine hc.mono ?_;rintro e w' ⟨rfl,rfl⟩)
    |(go_at_call 221;refine hn.mono ?_;rintro e w' ⟨rfl,rfl⟩))
   go_ret;exact⟨rfl,rfl⟩
theorem Check_any (x:Stp)(hn:x.name.size≤maxLen)(ht:x.to.size≤maxLen)(hx:x.text.size≤maxLen)(w:World):
 Calls Tryz.prog 152 #[.agg (stpA x)] w fun e w'=>e=.returned (.int .i64 (chk x))∧Below w.heap.size w w':=by
 unfold maxLen at hx;go_enter Tryz.func152,Tryz.ntmps152;go_wp2_with(first
  |(go_at_call_of 198 x.dir;refine(checkPlace_any x.dir x.name hn _).mono ?_;rintro e w' ⟨rfl,rfl⟩)
  |(go_at_call_of 198 x.toDir;refine(checkPlace_any x.toDir x.to ht _).mono ?_;rintro e w' ⟨rfl,rfl⟩))
 all_goals
  go_ret
  refine⟨az ?_,(gX _ _).alloc (gY _) _⟩
  try simp only[bne_eq_false_iff_eq,beq_iff_eq,beq_eq_false_iff_ne,bne_iff_ne,ne_eq]at*
  unfold chk
  repeat' split
  all_goals first|rfl|omega
end Idl
end
end Go.Proofs.YtfpfpnhpbnnmfadGreatDoor
