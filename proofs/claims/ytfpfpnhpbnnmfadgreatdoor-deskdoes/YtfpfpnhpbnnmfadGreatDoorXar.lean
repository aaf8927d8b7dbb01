import Derived.Test.YtfpfpnhpbnnmfadGreatDoorXaa
import Derived.Test.YtfpfpnhpbnnmfadGreatDoorXam
import Derived.Laws.CopyRow
import Derived.Deep.LoopGhost
import Derived.Shelf.Abstract
import Derived.Maps.AppendAt
import Derived.Lib.ItoaNum
import Derived.Lib.Join
import Derived.Lib.Bytealg
import Derived.Lib.IndexLaws
import Derived.Test.YtfpfpnhpbnnmfadGreatDoorXaq
import Derived.Shelf.RegionOpenPlain
import Derived.Lib.Builder
import Derived.Lib.AppendStr
import Derived.Lib.UnsafeStr
import Derived.Laws.Externs
import Derived.WalkKit
import Derived.Deep.WholeRow
import Derived.Deep.RegionHeld
import Derived.Deep.QuietTactic
import Derived.Deep.Cut
import Derived.Deep.CutRange
import Derived.Deep.DeepCutAuto
import Derived.Laws.AppendOwn
import Derived.Lib.ItoaLen
set_option maxHeartbeats 40000000
set_option maxRecDepth 100000
set_option linter.unusedVariables false
namespace Go.Proofs.YtfpfpnhpbnnmfadGreatDoor
section
namespace Img
open Idl (Stp chk)
variable {now disk:Img}{last:Int}
theorem added_live (d:Int)(s:ByteArray)(n j:Nat):(added now disk d s n).live j=now.live j:=by
 show(if j=n then now.live n else now.live j)=_;by_cases e:j=n
 ·rw[if_pos e,e]
 ·rw[if_neg e]
theorem added_stamp (d:Int)(s:ByteArray)(n j:Nat):(added now disk d s n).stamp j=now.stamp j:=by
 show(if j=n then now.stamp n else now.stamp j)=_;by_cases e:j=n
 ·rw[if_pos e,e]
 ·rw[if_neg e]
theorem added_name (d:Int)(s:ByteArray)(n:Nat){k:Nat}(hS:SlotAt now disk d k){e t:Nat}(h:now.named e t=true):(added now disk d s n).entry e t=now.entry e t:=by
 have:¬(e=d.toNat∧t=(freeSlot now disk d).toNat):=fun z=>by
  rw[hS.eq,g_]at z;have:=hS.now;rw[←z.1,←z.2,h]at this;cases this
 exact putEnt_other now _ this
theorem added_at (d:Int)(s:ByteArray)(n:Nat){k:Nat}(hS:SlotAt now disk d k):(added now disk d s n).entry d.toNat k=⟨s,(n:Int),now.stamp n⟩:=by
 have:=putEnt_at now d.toNat k ⟨s,(n:Int),now.stamp n⟩;unfold added;rw[hS.eq,g_];exact this
theorem find_at {m:Img}(hm:m.check=0){d:Int}{s:ByteArray}{k:Nat}(hd:0≤d∧d<3)(hk:k<4)(hs:s.toList.isEmpty=false)(hn:m.name d.toNat k=s):m.findAt d s.toList=(k:Int):=by
 unfold findAt;rw[if_pos ⟨hd.1,hd.2,hs⟩];have:=find_self (d:=d.toNat) (s:=k) hm om_ hk (by unfold named;rw[hn,hs];rfl);rw[hn]at this;exact this
theorem There.added {d:Int}{s:ByteArray}{k n:Nat}(hT:There now d s k n){e:Int}{t:ByteArray}{n' k':Nat}(hS:SlotAt now disk e k')(hm:(added now disk e t n').check=0):There (added now disk e t n') d s k n:=by
 have h1:=added_name (disk:=disk) e t n' hS hT.named;obtain⟨a1,a2,a3⟩:=named_entry h1;have hat:=find_at hm ⟨hT.d0,hT.d3⟩ hT.k4 hT.ne (a1.trans hT.nm);refine⟨hT.d0,hT.d3,hT.ne,hT.k4,hat,a1.trans hT.nm,?_,a2.trans hT.ino,hT.n8,by rw[added_live];exact hT.live,by rw[added_stamp,a3];exact hT.stamp,?_⟩
 ·unfold Img.named;rw[a1];exact hT.named
 ·unfold inoOf;rw[if_neg (by rw[hat];omega),hat,g_,a2,hT.ino]
theorem dropped_live {d:Int}{s:ByteArray}{j:Nat}(h:(dropped now d s).live j=true):now.live j=true∧(dropped now d s).stamp j=now.stamp j:=by
 have h1:(dropped1 now d s).live j=now.live j∧(dropped1 now d s).stamp j=now.stamp j:=by
  unfold dropped1;rw[putIno_live,putIno_stamp];by_cases e:j=(inoOf now d s).toNat
  ·rw[if_pos e,if_pos e,e];exact⟨rfl,rfl⟩
  ·rw[if_neg e,if_neg e];exact⟨rfl,rfl⟩
 unfold dropped at h⊢;split at h
 ·rename_i z
  rw[if_pos z];rw[putIno_live]at h;by_cases e:j=(inoOf now d s).toNat
  ·rw[if_pos e]at h;cases h
  ·rw[if_neg e,h1.1]at h;rw[putIno_stamp,if_neg e];exact⟨h,h1.2⟩
 ·rename_i z
  rw[if_neg z];rw[h1.1]at h;exact⟨h,h1.2⟩
theorem setPart_same (n p:Nat)(v:Int)(j:Nat):(now.setPart n p v).live j=now.live j∧(now.setPart n p v).stamp j=now.stamp j:=by
 unfold setPart;rw[putIno_live,putIno_stamp];by_cases e:j=n
 ·rw[if_pos e,if_pos e,e];exact⟨rfl,rfl⟩
 ·rw[if_neg e,if_neg e];exact⟨rfl,rfl⟩
theorem putPart_same (n p:Nat)(t:ByteArray)(j:Nat):(putPart now disk n p t).live j=now.live j∧(putPart now disk n p t).stamp j=now.stamp j:=by
 unfold putPart;by_cases e:now.part n p<0
 ·simp only[if_pos e];exact setPart_same n p _ j
 ·simp only[if_neg e];exact⟨rfl,rfl⟩
structure Comes (now disk:Img)(last:Int)(x:Stp)(n k:Nat):Prop where
 n8:n<8
 ino:freeIno now disk=(n:Int)
 dead:now.live n=false
 refs:disk.refs (n:Int)=0
 slot:SlotAt now disk x.dir k
 slot':SlotAt (started now disk last) disk x.dir k
 chk:(started now disk last).check=0
 ex:Ex (added (started now disk last) disk x.dir x.name n)
theorem comes (hG:Good now last){x:Stp}(h:scode now disk x=0)(h1:x.kind=1):∃n k,Comes now disk last x n k:=by
 have t:=take h;obtain⟨n,hn,he,hl,hr⟩:=inoAt (t.ino h1);obtain⟨k,hS⟩:=slotAt (t.slot h1).1;have hc:=started_check (disk:=disk) hG.ex hG.lo hG.last hl he;have hS':SlotAt (started now disk last) disk x.dir k:=⟨hS.d0,hS.d3,hS.s4,hS.eq,hS.now,hS.disk⟩;have hrn:=dead_refs hG.ex.ok hl;have er:∀j:Int,(started now disk last).refs j=now.refs j:=fun j=>putIno_refs _ _ _ _
 have el:∀j,(started now disk last).live j=if j=n then true else now.live j:=fun j=>by unfold started;rw[he,g_];rfl
 have ek:∀j,(started now disk last).links j=if j=n then 0 else now.links j:=fun j=>by unfold started;rw[he,g_];rfl
 refine⟨n,k,hn,he,hl,hr,hS,hS',hc,?_⟩;refine added_ex hc hS' hn (by rw[el,if_pos rfl]) t.name (fun u hu=>?_) (fun j hj hlj=>?_) (fun j hj hne hlj=>?_)
 ·have:=findAt_none (m:=now) (d:=x.dir) (s:=x.name) ((inoOf_neg hG.ex.ok).1 (t.new h1)) t.dir (nm_ne t.name) u hu;exact this
 ·rw[ek,er];by_cases e:j=n
  ·rw[if_pos e,e,hrn];rfl
  ·rw[if_neg e];rw[el,if_neg e]at hlj;exact(hG.ex.links j hj hlj).1
 ·rw[ek,if_neg hne];rw[el,if_neg hne]at hlj;exact(hG.ex.links j hj hlj).2
theorem linked (hG:Good now last){x:Stp}(h:scode now disk x=0)(h2:x.kind=2∨x.kind=4):∃k n k',There now x.dir x.name k n∧SlotAt now disk x.toDir k'∧Ex (added now disk x.toDir x.to n):=by
 have t:=take h;obtain⟨k,n,hT⟩:=there hG.ex.ok (t.old om_);obtain⟨k',hS⟩:=slotAt (t.slot2 h2).1;refine⟨k,n,k',hT,hS,added_ex hG.ex.ok hS hT.n8 hT.live (t.to h2).2 (fun u hu=>?_) (fun j hj hlj=>(hG.ex.links j hj hlj).1) (fun j hj _ hlj=>(hG.ex.links j hj hlj).2)⟩;exact findAt_none (m:=now) (d:=x.toDir) (s:=x.to) ((inoOf_neg hG.ex.ok).1 (t.new2 h2)) (t.to h2).1 (nm_ne (t.to h2).2) u hu
theorem good_step (hG:Good now last)(x:Stp):Good (sstep now disk last x) (slast now disk last x):=by
 by_cases h:scode now disk x=0
 ·have t:=take h;rcases sstep_cases (last:=last) h with⟨k,e⟩|⟨k,e⟩|⟨k,e⟩|⟨k,e⟩|⟨k,e⟩|⟨k,e⟩
  ·obtain⟨n,s,hc⟩:=comes hG h k;have el:slast now disk last x=last+1:=if_pos ⟨h,k⟩;rw[e,el,hc.ino,g_];refine⟨hc.ex,by have:=hG.lo;omega,fun j hj hlj=>?_⟩;rw[added_live]at hlj;rw[added_stamp];unfold started at hlj⊢;rw[hc.ino,g_]at hlj⊢;rw[putIno_live]at hlj;rw[putIno_stamp];by_cases ej:j=n
   ·rw[if_pos ej];exact Int.le_refl _
   ·rw[if_neg ej]at hlj⊢;have:=hG.last j hj hlj;omega
  all_goals have el:slast now disk last x=last:=if_neg (fun z=>by have:=z.2;omega)
  all_goals rw[e,el]
  ·obtain⟨k',n,s,hT,hS,hx⟩:=linked hG h (.inl k);rw[hT.of,g_];exact⟨hx,hG.lo,fun j hj hlj=>by rw[added_live]at hlj;rw[added_stamp];exact hG.last j hj hlj⟩
  ·obtain⟨k',n,hT⟩:=there hG.ex.ok (t.old om_);exact⟨dropped_ex hG.ex hT,hG.lo,fun j hj hlj=>by rw[(dropped_live hlj).2];exact hG.last j hj (dropped_live hlj).1⟩
  ·obtain⟨k',n,s,hT,hS,hx⟩:=linked hG h (.inr k);rw[hT.of,g_];refine⟨dropped_ex hx (hT.added hS hx.ok),hG.lo,fun j hj hlj=>?_⟩;obtain⟨a1,a2⟩:=dropped_live hlj;rw[a2,added_stamp];rw[added_live]at a1;exact hG.last j hj a1
  ·obtain⟨k',n,hT⟩:=there hG.ex.ok (t.old om_);have hp:=t.part (.inl k);have hf:=t.data k;rw[hT.of,g_]at hf⊢;exact⟨putPart_ex hG.ex hT.n8 om_ hT.live x.text hf,hG.lo,fun j hj hlj=>by rw[(putPart_same _ _ _ j).1]at hlj;rw[(putPart_same _ _ _ j).2];exact hG.last j hj hlj⟩
  ·obtain⟨k',n,hT⟩:=there hG.ex.ok (t.old om_);have hp:=t.part (.inr k);rw[hT.of,g_];exact⟨setPart_ex hG.ex hT.n8 om_ hT.live (-1) (.inl rfl),hG.lo,fun j hj hlj=>by rw[(setPart_same _ _ _ j).1]at hlj;rw[(setPart_same _ _ _ j).2];exact hG.last j hj hlj⟩
 ·have e1:sstep now disk last x=now:=if_pos h;have e2:slast now disk last x=last:=if_neg (fun z=>h z.1);rw[e1,e2];exact hG
end Img
end
section
namespace Img
variable {now disk:Img}
def Slotty (now disk:Img):Prop:=∀d s,d<3→s<4→now.named d s=true→disk.named d s=true→now.entry d s=disk.entry d s
def DataAs (now disk:Img):Prop:=∀x,x<9→disk.of x=now.of x∧disk.text x=now.text x
structure Mix (now E M:Img):Prop where
 ent:∀d s,d<3→s<4→M.entry d s=E.entry d s∨M.entry d s=now.entry d s∨M.entry d s=Ent.none
 ino:∀n,n<8→M.inode n=E.inode n
 dat:M.of=E.of∧M.text=E.text
theorem Mix.refl (now E:Img):Mix now E E:=⟨fun _ _ _ _=>.inl rfl,fun _ _=>rfl,rfl,rfl⟩
theorem none_unnamed {m:Img}{d s:Nat}(h:m.entry d s=Ent.none):m.named d s=false:=by
 have:m.name d s=⟨#[]⟩:=by unfold entry Ent.none at h;injection h
 unfold named;rw[this,empty_list];rfl
theorem named_of_entry {a b:Img}{d s:Nat}(h:a.entry d s=b.entry d s):a.named d s=b.named d s:=by
 unfold named;rw[(named_entry h).1]
theorem leads_of_entry {a b:Img}{d s:Nat}(h:a.entry d s=b.entry d s)(ino:Int):a.leads ino d s=b.leads ino d s:=by
 rw[←entry_leads,←entry_leads,h]
theorem Mix.slotty {E M:Img}(h:Mix now E M)(hS:Slotty now E):Slotty now M:=fun d s hd hs h1 h2=>by
 rcases h.ent d s hd hs with e|e|e
 ·rw[e];exact hS d s hd hs h1 (by rw[←named_of_entry e];exact h2)
 ·exact e.symm
 ·rw[none_unnamed e]at h2;cases h2
theorem entryAs_mix {E M:Img}(h:Mix now E M){d s:Nat}(hd:d<3)(hs:s<4):entryAs now M d s=E.entry d s∨entryAs now M d s=now.entry d s∨entryAs now M d s=Ent.none:=by
 unfold entryAs;split
 ·exact h.ent d s hd hs
 ·split
  ·split
   ·exact .inr (.inl rfl)
   ·exact h.ent d s hd hs
  ·split
   ·exact .inr (.inr rfl)
   ·exact h.ent d s hd hs
theorem Mix.put {E M:Img}(h:Mix now E M){d s:Nat}(hd:d<3)(hs:s<4):Mix now E (M.putEnt d s (entryAs now M d s)):=by
 refine⟨fun d' s' hd' hs'=>?_,fun n hn=>h.ino n hn,h.dat⟩;by_cases e:d'=d∧s'=s
 ·obtain⟨rfl,rfl⟩:=e;rw[putEnt_at];exact entryAs_mix h hd hs
 ·rw[putEnt_other M _ e];exact h.ent d' s' hd' hs'
theorem Mix.wDir {E M:Img}(h:Mix now E M){d:Nat}(hd:d<3):∀s,s≤4→Mix now E (wDir now M d s)
 |0,_=>h
 |s+1,hs=>(Mix.wDir h hd s om_).put hd om_
theorem cnt_mono {p q:Nat→Bool}:∀{n:Nat},(∀j,j<n→p j=true→q j=true)→cnt p n≤cnt q n
 |0,_=>gY _
 |n+1,h=>by
  have h1:=cnt_mono (p:=p) (q:=q) (n:=n) (fun j hj=>h j om_);unfold cnt;cases hp:p n
  ·simp;omega
  ·rw[h n om_ hp];simp;omega
theorem cnt_lt {p q:Nat→Bool}{s:Nat}(hp:p s=false)(hq:q s=true):∀{n:Nat},s<n→(∀j,j<n→p j=true→q j=true)→cnt p n<cnt q n
 |0,hs,_=>by omega
 |n+1,hs,h=>by
  by_cases e:s=n
  ·subst e;have h1:=cnt_mono (p:=p) (q:=q) (n:=s) (fun j hj=>h j om_);unfold cnt;rw[hp,hq];simp;omega
  ·have h1:=cnt_lt hp hq (n:=n) om_ (fun j hj=>h j om_);unfold cnt;cases hpn:p n
   ·simp;omega
   ·rw[h n om_ hpn];simp;omega
theorem refs_lt_uni {E M:Img}{ino:Int}(h:∀d s,d<3→s<4→M.leads ino d s=true→both now E ino d s=true){d s:Nat}(hd:d<3)(hs:s<4)(h1:M.leads ino d s=false)(h2:both now E ino d s=true):M.refs ino<uni now E ino:=by
 have hle:∀k,k≤3→M.refsTo ino k≤uniTo now E ino k:=fun k=>by
  induction k with
  |zero=>intro _;exact gY _
  |succ k ih=>
   intro hk;have:=ih om_;have:=cnt_mono (p:=M.leads ino k) (q:=both now E ino k) (n:=4) (fun j hj=>h k j om_ hj);unfold refsTo uniTo;omega
 have hlt:∀k,k≤3→d<k→M.refsTo ino k<uniTo now E ino k:=fun k=>by
  induction k with
  |zero=>intro _ h;omega
  |succ k ih=>
   intro hk hdk;unfold refsTo uniTo;by_cases e:d=k
   ·subst e;have:=hle d om_;have:=cnt_lt (p:=M.leads ino d) (q:=both now E ino d) h1 h2 (n:=4) hs (fun j hj=>h d j om_ hj);omega
   ·have:=ih om_ om_;have:=cnt_mono (p:=M.leads ino k) (q:=both now E ino k) (n:=4) (fun j hj=>h k j om_ hj);omega
 exact hlt 3 (gY _) hd
theorem uni_congr {a a' b b':Img}{ino:Int}(ha:∀d s,d<3→s<4→a.leads ino d s=a'.leads ino d s)(hb:∀d s,d<3→s<4→b.leads ino d s=b'.leads ino d s):uni a b ino=uni a' b' ino:=by
 have:∀k,k≤3→uniTo a b ino k=uniTo a' b' ino k:=fun k=>by
  induction k with
  |zero=>intro _;rfl
  |succ k ih=>
   intro hk;unfold uniTo;rw[ih om_,cnt_congr (p:=both a b ino k) (q:=both a' b' ino k) (fun j hj=>by unfold both;rw[ha k j om_ hj,hb k j om_ hj])]
 exact this 3 (gY _)
structure Round (now E:Img):Prop where
 dat:DataAs now E
 live:∀n,n<8→now.live n=true→E.inode n=⟨true,now.stamp n,uni now E n,now.part n 0,now.part n 1⟩
 dead:∀n,n<8→now.live n=false→uni now E n=0→E.inode n=Ino.none
 slot:Slotty now E
theorem come {E M:Img}(hn:now.check=0)(hR:Round now E)(hM:Mix now E M){d s:Nat}(hd:d<3)(hs:s<4)(hnm:now.named d s=true):entryAs now M d s=now.entry d s:=by
 unfold entryAs;by_cases e1:sameEnt now M d s=true
 ·rw[if_pos e1];exact(sameEnt_eq e1).symm
 ·rw[if_neg e1];have hu:M.named d s=false:=by
   cases e:M.named d s
   ·rfl
   ·exact absurd (sameEnt_of (hM.slotty hR.slot d s hd hs hnm e)) e1
  rw[if_pos hu];have ok:=(slot_ok hnm).1 ((well_iff.1 hn).slot d s hd hs);obtain⟨i,hi⟩:=hU ok.lo;have hi8:i<8:=by have:=ok.hi;omega
  have hi':now.ino d s=(i:Int):=hi;have hl:now.live i=true:=by have:=ok.live;rwa[hi',g_]at this
  have hst:now.stamp i=now.est d s:=by have:=ok.stamp;rwa[hi',g_]at this
  obtain⟨g1,g2,g3,_,_⟩:=inode_is ((hM.ino i hi8).trans (hR.live i hi8 hl));have hlead:now.leads (i:Int) d s=true:=slot_leads hnm hi';have hlt:M.refs (i:Int)<uni now E (i:Int):=by
   refine refs_lt_uni (fun d' s' hd' hs' h=>?_) hd hs (by unfold leads;rw[hu];rfl) (by unfold both;rw[hlead];rfl);unfold both;rcases hM.ent d' s' hd' hs' with e|e|e
   ·rw[←leads_of_entry e,h];simp
   ·rw[←leads_of_entry e,h];simp
   ·rw[←entry_leads,e,none_leads]at h;cases h
  have hc:mayCome M (now.ino d s) (now.est d s)=true:=by
   unfold mayCome;have e1:isI (i:Int)=true:=by simp[isI];omega
   rw[hi',e1,g_,g1,g2,g3,hst];simp;omega
  rw[if_pos hc]
def Full (now M:Img):Prop:=∀d s,d<3→s<4→now.named d s=true→M.entry d s=now.entry d s
theorem go {M:Img}(hF:Full now M){d s:Nat}(hd:d<3)(hs:s<4)(hne:now.entry d s=Ent.none)(hnm:now.named d s=false)(hm:M.named d s=false→M.entry d s=Ent.none):entryAs now M d s=Ent.none:=by
 unfold entryAs;by_cases e1:sameEnt now M d s=true
 ·rw[if_pos e1,←sameEnt_eq e1];exact hne
 ·rw[if_neg e1];by_cases e2:M.named d s=false
  ·exact absurd (sameEnt_of (hne.trans (hm e2).symm)) e1
  ·rw[if_neg e2];have e2':M.named d s=true:=by simpa using e2
   have hg:mayGo now M (M.ino d s)=true:=by
    unfold mayGo;by_cases z:now.refs (M.ino d s)=0
    ·simp[z]
    ·rw[Bool.or_eq_true];left;have hx:¬∀d' s',d'<3→s'<4→now.leads (M.ino d s) d' s'=false:=fun h=>z (refs_zero_iff.2 h)
     have hl:M.leads (M.ino d s) d s=true:=by unfold leads;rw[e2'];simp
     have hc:=clear_refs_yes (m:=M) (M.ino d s) hd hs hl;have:0<(M.clear d s).refs (M.ino d s):=by
      cases e:decide ((M.clear d s).refs (M.ino d s)=0)
      ·simp at e;omega
      ·exfalso;have e0:(M.clear d s).refs (M.ino d s)=0:=by simpa using e
       apply hx;intro d' s' hd' hs';cases e3:now.leads (M.ino d s) d' s'
       ·rfl
       ·exfalso;have hn':now.named d' s'=true:=by unfold leads at e3;simp at e3;exact e3.1
        have hne':¬(d'=d∧s'=s):=fun q=>by rw[q.1,q.2,hnm]at hn';cases hn'
        have:=refs_pos_of_leads (m:=M.clear d s) hd' hs' (by rw[clear_leads _ hne',leads_of_entry (hF d' s' hd' hs' hn'),e3]);omega
     simp;omega
   rw[if_pos hg]
theorem wDir_come {E M:Img}(hn:now.check=0)(hR:Round now E)(hM:Mix now E M){d:Nat}(hd:d<3):∀s,s≤4→∀t,t<s→now.named d t=true→(wDir now M d s).entry d t=now.entry d t:=by
 intro s hs t ht hnm;rw[wDir_entry_done now M d s t ht];exact come hn hR (hM.wDir hd t om_) hd om_ hnm
theorem wDir_full {E M:Img}(hn:now.check=0)(hR:Round now E)(hM:Mix now E M)(hF:Full now M){d:Nat}(hd:d<3)(s:Nat)(hs:s≤4):Full now (wDir now M d s):=fun d' s' hd' hs' hnm=>by
 by_cases e:d'≠d∨s≤s'
 ·rw[wDir_entry_other now M d s e];exact hF d' s' hd' hs' hnm
 ·have e1:d'=d:=om_;subst e1;exact wDir_come hn hR hM hd s hs s' om_ hnm
def Empties (M:Img):Prop:=∀d s,d<3→s<4→M.named d s=false→M.entry d s=Ent.none
theorem Mix.empties {E M:Img}(h:Mix now E M)(h1:Empties E)(h2:Empties now):Empties M:=fun d s hd hs hu=>by
 rcases h.ent d s hd hs with e|e|e
 ·rw[e];exact h1 d s hd hs (by rw[←named_of_entry e];exact hu)
 ·rw[e];exact h2 d s hd hs (by rw[←named_of_entry e];exact hu)
 ·exact e
theorem wDir_gone {E M:Img}(hn:now.check=0)(hR:Round now E)(hM:Mix now E M)(hF:Full now M)(hE:Empties E){d:Nat}(hd:d<3){t:Nat}(ht:t<4)(hnm:now.named d t=false):(wDir now M d 4).entry d t=now.entry d t:=by
 have h2:Empties now:=fun d s hd hs hu=>empty_unnamed hn hd hs hu
 have hne:=h2 d t hd ht hnm;rw[wDir_entry_done now M d 4 t ht,hne];exact go (wDir_full hn hR hM hF hd t om_) hd ht hne hnm ((hM.wDir hd t om_).empties hE h2 d t hd ht)
def dnF (f:Img→Int→Img):Nat→Img→Img
 |0,D=>D
 |b+1,D=>dnF f b (f D (b:Int))
theorem dnF_succ (f:Img→Int→Img)(b:Nat)(D:Img):dnF f (b+1) D=dnF f b (f D (b:Int)):=rfl
theorem down_dnF (now:Img):∀b D,down now D b=dnF (write now) b D
 |0,_=>rfl
 |b+1,D=>by unfold down;rw[down_dnF now b,dnF_succ]
def datF (f:Img→Int→Img):Nat→Img→Img
 |0,D=>D
 |k+1,D=>datF f k (f D ((5+k:Nat):Int))
theorem datF_succ (f:Img→Int→Img)(k:Nat)(D:Img):datF f (k+1) D=datF f k (f D ((5+k:Nat):Int)):=rfl
theorem dnF_dat (f:Img→Int→Img):∀k D,dnF f (5+k) D=dnF f 5 (datF f k D)
 |0,_=>rfl
 |k+1,D=>by rw[←ix,dnF_succ,dnF_dat f k,datF_succ]
theorem dnF_five (f:Img→Int→Img)(D:Img):dnF f 5 D=f (f (f (f (f D ((4:Nat):Int)) ((3:Nat):Int)) ((2:Nat):Int)) ((1:Nat):Int)) ((0:Nat):Int):=rfl
def dat (now D:Img)(k:Nat):Img:=datF (write now) k D
theorem dat_succ (now D:Img)(k:Nat):dat now D (k+1)=dat now (write now D ((5+k:Nat):Int)) k:=by unfold dat;rw[datF_succ]
theorem dat_rest (now:Img):∀k D,k≤9→(∀d s,(dat now D k).entry d s=D.entry d s)∧(∀n,(dat now D k).inode n=D.inode n)∧∀x,x<9→(x<k∨(D.of x=now.of x∧D.text x=now.text x))→(dat now D k).of x=now.of x∧(dat now D k).text x=now.text x
 |0,D,_=>⟨fun _ _=>rfl,fun _=>rfl,fun x _ h=>by
  rcases h with h|h
  ·omega
  ·exact h⟩
 |k+1,D,hk=>by
  obtain⟨h1,h2,h3⟩:=dat_rest now k (write now D ((5+k:Nat):Int)) om_;have hw:=write_data (now:=now) (disk:=D) (x:=k) om_;rw[Nat.add_comm k 5]at hw;rw[dat_succ];refine⟨fun d s=>by rw[h1,hw];rfl,fun n=>by rw[h2,hw];rfl,fun x hx h=>h3 x hx ?_⟩;by_cases e:x=k
  ·right;subst e;rw[hw];exact⟨if_pos rfl,if_pos rfl⟩
  ·rcases h with h|h
   ·left;omega
   ·right;rw[hw];exact⟨(if_neg e).trans h.1,(if_neg e).trans h.2⟩
def dirs (now M:Img):Img:=wDir now (wDir now (wDir now M 2 4) 1 4) 0 4
def inos (now M:Img):Img:=wInos now (wInos now M 4 4) 0 4
theorem down_is (now D:Img):down now D 14=inos now (dirs now (dat now D 9)):=by
 rw[down_dnF,show(14:Nat)=5+9 from rfl,dnF_dat,dnF_five];show _=inos now (dirs now (datF (write now) 9 D));generalize datF (write now) 9 D=M;have h4:∀X:Img,write now X ((4:Nat):Int)=wDir now X 2 4:=fun X=>write_dir (d:=2) om_
 have h3:∀X:Img,write now X ((3:Nat):Int)=wDir now X 1 4:=fun X=>write_dir (d:=1) om_
 have h2:∀X:Img,write now X ((2:Nat):Int)=wDir now X 0 4:=fun X=>write_dir (d:=0) om_
 have h1:∀X:Img,write now X ((1:Nat):Int)=wInos now X 4 4:=fun X=>write_ino (k:=1) om_
 have h0:∀X:Img,write now X ((0:Nat):Int)=wInos now X 0 4:=fun X=>write_ino (k:=0) om_
 rw[h4,h3,h2,h1,h0];rfl
theorem inos_rest (now M:Img):(inos now M).name=M.name∧(inos now M).ino=M.ino∧(inos now M).est=M.est∧(inos now M).of=M.of∧(inos now M).text=M.text:=by
 unfold inos;have h1:=wInos_rest now (wInos now M 4 4) 0 4;have h2:=wInos_rest now M 4 4;exact⟨h1.1.trans h2.1,h1.2.1.trans h2.2.1,h1.2.2.1.trans h2.2.2.1,h1.2.2.2.1.trans h2.2.2.2.1,h1.2.2.2.2.trans h2.2.2.2.2⟩
theorem inodeAs_congr {a b:Img}{n:Nat}(h1:a.name=b.name)(h2:a.ino=b.ino)(h3:a.of=b.of)(hi:a.inode n=b.inode n):inodeAs now a n=inodeAs now b n:=by
 obtain⟨g1,g2,g3,g4⟩:=inode_eq hi;have hu:=uni_of_dirs now h1 h2 (n:Int);have hp:∀p,p<2→partAs now a n p=partAs now b n p:=fun p hp=>by
  unfold partAs;rw[h3,g1,g2,g4 p hp]
 unfold inodeAs;rw[hu,hp 0 om_,hp 1 om_,g1,g2,g4 0 om_,g4 1 om_]
theorem inos_at (now M:Img){n:Nat}(hn:n<8):(inos now M).inode n=inodeAs now M n:=by
 unfold inos;have h2:=wInos_rest now M 4 4;rcases wInos_cases now (wInos now M 4 4) 0 n with⟨_,x2,x3⟩|⟨x1,x2⟩
 ·rw[x3];refine inodeAs_congr h2.1 h2.2.1 h2.2.2.2.1 ?_;exact wInos_other now M 4 4 (.inl om_)
 ·rw[x2];rcases wInos_cases now M 4 n with⟨_,_,y3⟩|⟨y1,_⟩
  ·exact y3
  ·omega
theorem partAs_now (hn:now.check=0){M:Img}(hd:DataAs now M){n p:Nat}(hn8:n<8)(hp:p<2)(hl:now.live n=true):partAs now M n p=now.part n p:=by
 have hc:=checkPart_iff.1 ((inode_parts_ok hn hn8 hl).2.2 p hp);unfold partAs;rcases hc with e|⟨e1,e2⟩
 ·rw[e];simp[isD]
 ·have hb:0≤now.part n p∧now.part n p<9:=by simpa[isD]using e1
  rw[if_neg (by rw[e1];simp),(hd (now.part n p).toNat om_).1,if_pos e2]
theorem uni_inos (now M:Img)(ino:Int):uni now (inos now M) ino=uni now M ino:=uni_of_dirs now (inos_rest now M).1 (inos_rest now M).2.1 ino
theorem dirs_mix {E M:Img}(h:Mix now E M):Mix now E (dirs now M):=((h.wDir om_ 4 om_).wDir om_ 4 om_).wDir om_ 4 om_
theorem round_of (hn:now.check=0){D:Img}(hS:Slotty now D):Round now (down now D 14):=by
 rw[down_is];obtain⟨a1,a2,a3⟩:=dat_rest now 9 D (gY _);have hS':Slotty now (dat now D 9):=fun d s hd hs h1 h2=>by rw[a1];exact hS d s hd hs h1 (by rw[←named_of_entry (a1 d s)];exact h2)
 have hD:DataAs now (dat now D 9):=fun x hx=>a3 x hx (.inl hx)
 have hM:=dirs_mix (Mix.refl now (dat now D 9));have hD2:DataAs now (dirs now (dat now D 9)):=fun x hx=>by rw[hM.dat.1,hM.dat.2];exact hD x hx
 have hr:=inos_rest now (dirs now (dat now D 9));refine⟨fun x hx=>by rw[hr.2.2.2.1,hr.2.2.2.2];exact hD2 x hx,fun n hn8 hl=>?_,fun n hn8 hl hu=>?_,fun d s hd hs h1 h2=>?_⟩
 ·rw[inos_at _ _ hn8,uni_inos];unfold inodeAs;rw[if_pos hl,partAs_now hn hD2 hn8 om_ hl,partAs_now hn hD2 hn8 om_ hl]
 ·rw[inos_at _ _ hn8];rw[uni_inos]at hu;unfold inodeAs;rw[if_neg (by rw[hl];simp),if_neg (fun z=>z.2 hu)]
 ·have he:(inos now (dirs now (dat now D 9))).entry d s=(dirs now (dat now D 9)).entry d s:=by unfold entry;rw[hr.1,hr.2.1,hr.2.2.1]
  rw[he];exact(hM.slotty hS') d s hd hs h1 (by rw[←named_of_entry he];exact h2)
theorem full_of (hn:now.check=0){E:Img}(hR:Round now E):Full now (down now E 14):=by
 rw[down_is];obtain⟨a1,a2,a3⟩:=dat_rest now 9 E (gY _);have hR':Round now (dat now E 9):=by
  have hu:∀n:Nat,uni now (dat now E 9) n=uni now E n:=fun n=>uni_congr (fun _ _ _ _=>rfl) (fun d s _ _=>leads_of_entry (a1 d s) _)
  refine⟨fun x hx=>a3 x hx (.inl hx),fun n hn8 hl=>by rw[a2,hu];exact hR.live n hn8 hl,fun n hn8 hl h=>by rw[a2];exact hR.dead n hn8 hl (by rw[←hu];exact h),fun d s hd hs h1 h2=>by rw[a1];exact hR.slot d s hd hs h1 (by rw[←named_of_entry (a1 d s)];exact h2)⟩
 have m0:=Mix.refl now (dat now E 9);have m1:=m0.wDir (d:=2) om_ 4 om_;have m2:=m1.wDir (d:=1) om_ 4 om_;have hr:=inos_rest now (dirs now (dat now E 9));intro d s hd hs hnm;have he:(inos now (dirs now (dat now E 9))).entry d s=(dirs now (dat now E 9)).entry d s:=by unfold entry;rw[hr.1,hr.2.1,hr.2.2.1]
 rw[he];unfold dirs;have hd':d=0∨d=1∨d=2:=om_;rcases hd' with rfl|rfl|rfl
 ·exact wDir_come hn hR' m2 om_ 4 om_ s hs hnm
 ·rw[wDir_entry_other now _ 0 4 (.inl om_)];exact wDir_come hn hR' m1 om_ 4 om_ s hs hnm
 ·rw[wDir_entry_other now _ 0 4 (.inl om_),wDir_entry_other now _ 1 4 (.inl om_)];exact wDir_come hn hR' m0 om_ 4 om_ s hs hnm
theorem done_of (hx:Ex now){E:Img}(hR:Round now E)(hF:Full now E)(hE:Empties E):Agree now (down now E 14):=by
 have hn:=hx.ok;rw[down_is];obtain⟨a1,a2,a3⟩:=dat_rest now 9 E (gY _);have hR':Round now (dat now E 9):=by
  have hu:∀n:Nat,uni now (dat now E 9) n=uni now E n:=fun n=>uni_congr (fun _ _ _ _=>rfl) (fun d s _ _=>leads_of_entry (a1 d s) _)
  refine⟨fun x hx=>a3 x hx (.inl hx),fun n hn8 hl=>by rw[a2,hu];exact hR.live n hn8 hl,fun n hn8 hl h=>by rw[a2];exact hR.dead n hn8 hl (by rw[←hu];exact h),fun d s hd hs h1 h2=>by rw[a1];exact hR.slot d s hd hs h1 (by rw[←named_of_entry (a1 d s)];exact h2)⟩
 have hF':Full now (dat now E 9):=fun d s hd hs h=>by rw[a1];exact hF d s hd hs h
 have hE':Empties (dat now E 9):=fun d s hd hs h=>by rw[a1];exact hE d s hd hs (by rw[←named_of_entry (a1 d s)];exact h)
 have m0:=Mix.refl now (dat now E 9);have m1:=m0.wDir (d:=2) om_ 4 om_;have m2:=m1.wDir (d:=1) om_ 4 om_;have m3:=m2.wDir (d:=0) om_ 4 om_;have f1:=wDir_full hn hR' m0 hF' (d:=2) om_ 4 om_;have f2:=wDir_full hn hR' m1 f1 (d:=1) om_ 4 om_;have f3:=wDir_full hn hR' m2 f2 (d:=0) om_ 4 om_;have hent:∀d s,d<3→s<4→(dirs now (dat now E 9)).entry d s=now.entry d s:=fun d s hd hs=>by
  cases hnm:now.named d s
  ·unfold dirs;have hd':d=0∨d=1∨d=2:=om_;rcases hd' with rfl|rfl|rfl
   ·exact wDir_gone hn hR' m2 f2 hE' om_ hs hnm
   ·rw[wDir_entry_other now _ 0 4 (.inl om_)];exact wDir_gone hn hR' m1 f1 hE' om_ hs hnm
   ·rw[wDir_entry_other now _ 0 4 (.inl om_),wDir_entry_other now _ 1 4 (.inl om_)];exact wDir_gone hn hR' m0 hF' hE' om_ hs hnm
  ·exact f3 d s hd hs hnm
 have hr:=inos_rest now (dirs now (dat now E 9));have hD2:DataAs now (dirs now (dat now E 9)):=fun x hx=>by
  have:Mix now (dat now E 9) (dirs now (dat now E 9)):=m3;rw[this.dat.1,this.dat.2];exact hR'.dat x hx
 have hun:∀n:Nat,uni now (dirs now (dat now E 9)) n=now.refs n:=fun n=>by
  rw[←uni_self now (n:Int)];exact uni_congr (fun _ _ _ _=>rfl) (fun d s hd hs=>leads_of_entry (hent d s hd hs) _)
 refine .mk3 (fun n hn8=>?_) (fun d s hd hs=>?_) (fun x hx9=>?_)
 ·rw[inos_at _ _ hn8];unfold inodeAs;rw[hun];cases hl:now.live n
  ·rw[if_neg sp_,if_neg (fun z=>z.2 (dead_refs hn hl)),inode_free_ok hn hn8 hl]
  ·rw[if_pos rfl,partAs_now hn hD2 hn8 om_ hl,partAs_now hn hD2 hn8 om_ hl,←(hx.links n hn8 hl).1];unfold inode;rw[hl]
 ·have he:(inos now (dirs now (dat now E 9))).entry d s=(dirs now (dat now E 9)).entry d s:=by unfold entry;rw[hr.1,hr.2.1,hr.2.2.1]
  rw[he,hent d s hd hs]
 ·rw[hr.2.2.2.1,hr.2.2.2.2];exact⟨(hD2 x hx9).1.symm,(hD2 x hx9).2.symm⟩
end Img
end
section
open Go.RowKit
section
variable {P:Program}
theorem cB (w:World)(g o n:Nat)(t ty:TypeId)(cs:Array Value)(d:TypeDesc)(hg:w.heap[g]? =some (.cells cs t (0,0)))
 (hu:P.underlying ty=some d) (hd:(match d with|.struct _|.array _ _=>true|_=>false)=true) (hi:(P.info? ty).map (·.size)=some n) (hn:o+n≤cs.size):
 (loadVar ty ⟨g,o,none⟩).run P w=.ok (.agg (cs.extract o (o+n))) w:=by
 have hs:(cs.extract o (o+n)).size=n:=by simp;omega
 have hl:(loadCells ⟨g,o,none⟩ (cs.extract o (o+n)).toList.length).run P w=.ok (cs.extract o (o+n)).toList.toArray w:=
  run_loadCells_list (P:=P) w ⟨g,o,none⟩ (cs.extract o (o+n)).toList (fun j v hv=>by
   have hadd:(⟨g,o,none⟩:Addr).add j=⟨g,o+j,none⟩:=by unfold Addr.add;split<;>simp_all
   rw[hadd,iW w g (o+j) cs t (0,0) hg];have hv':(cs.extract o (o+n))[j]? =some v:=by rw[←Array.getElem?_toList];exact hv
   rw[ie]at hv';split at hv'
   ·exact hv'
   ·cases hv')
 cases hq:P.info? ty with
 |none=>simp[hq]at hi
 |some i=>
  have hsz:i.size=n:=by simpa[hq]using hi
  have hagg:(isAgg ty).run P w=.ok true w:=by
   unfold isAgg;rw[Sem.run_bind,run_underlying hu w];cases d<;>simp_all
  rw[Array.length_toList,hs,Array.toArray_toList]at hl;simp[loadVar,Sem.run_bind,hagg,sizeOf,typeInfo,hq,hsz,hl]
theorem ar {ops:Array Oper}{rest:List Oper}{o:Oper}{a:Act}{w:World}{Q:Exit→Act→World→Prop}(hgd:o.guard=none)(ty:TypeId)(x:Operand)(ho:o.op=.load ty x)
 (g off n:Nat) (hx:a.eval x=.pointer (some ⟨g,off,none⟩)) (t:TypeId) (cs:Array Value) (d:TypeDesc) (hg:w.heap[g]? =some (.cells cs t (0,0)))
 (hu:P.underlying ty=some d) (hd:(match d with|.struct _|.array _ _=>true|_=>false)=true) (hi:(P.info? ty).map (·.size)=some n) (hn:off+n≤cs.size)
 (h:wpList P ops Q rest (a.put o.dst (.agg (cs.extract off (off+n)))) w):wpList P ops Q (o::rest) a w:=
 wpList_plain hgd fun _ hK=>by
  unfold Oper.wp execOp;simp only[ho,hx,Instr.loadAt,Instr.sureAddr,Sem.run_bind,Sem.run_pure,Result.andThen_ok,cB w g off n t ty cs d hg hu hd hi hn];exact hK _ _ h
def aG (cs:Array Value)(o:Nat)(vs:Array Value):Array Value:=(cs.toList.take o++vs.toList++cs.toList.drop (o+vs.size)).toArray
theorem dn (w:World)(g o:Nat)(t ty:TypeId)(old cells:Array Value)(hg:w.heap[g]? =some (.cells old t (0,0)))(hi:(P.info? ty).map (·.size)=some cells.size)
 (ho:o+cells.size≤old.size) (h1:cells.all (·.oneCell')=true):
 (storeVar ty ⟨g,o,none⟩ (.agg cells)).run P w=.ok () (w.setRow g (aG old o cells)):=by
 have:=run_storeCells_at (P:=P) g o t cells.toList 0 old w hg (by simp;omega) (fun v hv=>(Array.all_eq_true_iff_forall_mem.1 h1) v (by simpa using hv));cases hq:P.info? ty with
 |none=>simp[hq]at hi
 |some i=>
  have hs:cells.size=i.size:=by simp[hq]at hi;omega
  simp[storeVar,sizeOf,typeInfo,hq,Value.cells,hs,this,aG]
theorem aN {ops:Array Oper}{rest:List Oper}{o:Oper}{a:Act}{w:World}{Q:Exit→Act→World→Prop}(hgd:o.guard=none)(ty:TypeId)(x y:Operand)(ho:o.op=.store ty x y)
 (g off:Nat) (cells:Array Value) (hx:a.eval x=.pointer (some ⟨g,off,none⟩)) (hy:a.eval y=.agg cells) (t:TypeId) (old:Array Value) (hg:w.heap[g]? =some (.cells old t (0,0)))
 (hi:(P.info? ty).map (·.size)=some cells.size) (hold:off+cells.size≤old.size) (h1:cells.all (·.oneCell')=true)
 (h:wpList P ops Q rest (a.put o.dst undef) (w.setRow g (aG old off cells))):wpList P ops Q (o::rest) a w:=
 wpList_plain hgd fun _ hK=>by
  unfold Oper.wp execOp;simp only[ho,hx,hy,Instr.storeAt,Instr.sureAddr,Sem.run_bind,Sem.run_pure,Result.andThen_ok,dn w g off t ty old cells hg hi hold h1];exact hK _ _ h
end
theorem bI {cs vs:Array Value}{o j:Nat}(h:o+vs.size≤cs.size):(aG cs o vs)[j]? =if j<o then cs[j]? else if j<o+vs.size then vs[j-o]? else cs[j]? :=by
 unfold aG;rw[List.getElem?_toArray,iF,List.getElem?_append];have hl:(cs.toList.take o).length=o:=by simp;omega
 rw[hl];by_cases h1:j<o
 ·rw[if_pos h1,if_pos h1,List.getElem?_take,if_pos h1];simp
 ·rw[if_neg h1,if_neg h1,List.getElem?_append,Array.length_toList];by_cases h2:j<o+vs.size
  ·rw[if_pos om_,if_pos h2];simp
  ·rw[if_neg om_,if_neg h2,List.getElem?_drop,show o+vs.size+(j-o-vs.size)=j by omega];simp
theorem dU:(Tryz.prog.info? 72).map (·.size)=some 12:=kr_
theorem dY {ds:Array Value}{a b:Nat}(h:ds.all (·.oneCell')=true):(ds.extract a b).all (·.oneCell')=true:=by
 rw[Array.all_eq_true_iff_forall_mem]at h⊢;intro v hv;obtain⟨i,hi⟩:=Array.mem_iff_getElem?.1 hv;rw[ie]at hi;split at hi
 ·exact h v (Array.mem_of_getElem? hi)
 ·cases hi
end
section
open Go.RowKit
namespace Idl
theorem str_info:∃i,Tryz.prog.info? 9=some i∧i.zero=some (.string ⟨#[]⟩)∧i.size=1∧i.bytes=16:=by
 have h:(Tryz.prog.info? 9).map (fun i=>(i.zero,i.size,i.bytes))=some (some (.string ⟨#[]⟩),1,16):=kr_;cases hq:Tryz.prog.info? 9 with
 |none=>rw[hq]at h;cases h
 |some i=>
  rw[hq]at h;simp only[Option.map_some,Option.some.injEq,Prod.mk.injEq]at h;exact⟨i,rfl,h.1,h.2.1,h.2.2⟩
theorem one_new (W:World)(x:Value)(t:TypeId)(k:Nat)(hk:k=W.heap.size):∀j u,[x][j]? =some u→(W.alloc (.cells #[x] t)).cell? ((⟨k,0,none⟩:Addr).add j)=some u:=fun j u hj=>by
 cases j with
 |zero=>
  rw[Addr.add_lit,World.cell?_alloc_at _ _ _ _ hk];simpa using hj
 |succ j=>simp at hj
theorem one_str (s:ByteArray):∀u∈[Value.string s],u.oneCell'=true:=fun u hu=>by
 rcases ic.1 hu with rfl|hu
 ·rfl
 ·cases hu
def strs (l:List ByteArray):List Value:=l.map .string
end Idl
end
section
namespace Txt
def plain (c:UInt8):Bool:=decide (33≤c.toNat)&&decide (c.toNat≤126)&& !(c==92)
def hexc (n:Nat):UInt8:=if n<10 then UInt8.ofNat (48+n)else UInt8.ofNat (87+n)
def digs:List UInt8:=[48,49,50,51,52,53,54,55,56,57,97,98,99,100,101,102]
def showB (c:UInt8):List UInt8:=if plain c then[c]else[92,hexc (c.toNat/16),hexc (c.toNat%16)]
def showR:List UInt8→List UInt8
 |[]=>[]
 |c::l=>showB c++showR l
def shows (l:List UInt8):List UInt8:=61::showR l
theorem plain_92:plain 92=false:=dc_
theorem showR_append:∀a b,showR (a++b)=showR a++showR b
 |[],b=>rfl
 |c::a,b=>by show showB c++showR (a++b)=_;rw[showR_append a b];show _=(showB c++showR a)++showR b;rw[iF]
theorem showR_one (c:UInt8):showR [c]=showB c:=by show showB c++[]=_;rw[iM]
theorem showB_len (c:UInt8):1≤(showB c).length∧(showB c).length≤3:=by unfold showB;split<;>simp
theorem showR_len:∀l,l.length≤(showR l).length∧(showR l).length≤3*l.length
 |[]=>by simp[showR]
 |c::l=>by have:=showR_len l;have:=showB_len c;show _≤(showB c++showR l).length∧(showB c++showR l).length≤_;rw[gZ,ig];omega
theorem hexc_inj:∀a:Fin 16,∀b:Fin 16,hexc a.val=hexc b.val→a=b:=by decide+kernel
theorem hexc_dig:∀a:Fin 16,digs[a.val]? =some (hexc a.val):=by decide+kernel
theorem byte_ext {a b:UInt8}(h1:a.toNat/16=b.toNat/16)(h2:a.toNat%16=b.toNat%16):a=b:=by
 have:a.toNat=b.toNat:=om_;exact UInt8.toNat_inj.1 this
theorem hx_inj {a b:Nat}(ha:a<16)(hb:b<16)(h:hexc a=hexc b):a=b:=congrArg Fin.val (hexc_inj ⟨a,ha⟩ ⟨b,hb⟩ h)
theorem showB_free {c d:UInt8}{x y:List UInt8}(h:showB c++x=showB d++y):c=d∧x=y:=by
 have hc:=c.toNat_lt;have hd:=d.toNat_lt;unfold showB at h;cases pc:plain c<;>cases pd:plain d<;>rw[pc,pd]at h
 ·simp only[Bool.false_eq_true,if_false,List.cons_append,List.nil_append,List.cons.injEq]at h;exact⟨byte_ext (hx_inj om_ om_ h.2.1) (hx_inj om_ om_ h.2.2.1),h.2.2.2⟩
 ·simp only[Bool.false_eq_true,if_false,if_true,List.cons_append,List.nil_append,List.cons.injEq]at h;rw[←h.1,plain_92]at pd;cases pd
 ·simp only[Bool.false_eq_true,if_false,if_true,List.cons_append,List.nil_append,List.cons.injEq]at h;rw[h.1,plain_92]at pc;cases pc
 ·simp only[if_true,List.cons_append,List.nil_append,List.cons.injEq]at h;exact h
theorem showB_ne (c:UInt8)(x:List UInt8):showB c++x≠[]:=fun h=>by have h1:=showB_len c;have h2:=congrArg List.length h;rw[gZ,iN]at h2;omega
theorem showR_head:∀{a l r:List UInt8},showR a++r=showR l→∃l',l=a++l'∧r=showR l'
 |[],l,r,h=>⟨l,rfl,h⟩
 |c::a,[],r,h=>by
  exfalso;rw[show showR (c::a)=showB c++showR a from rfl,iF]at h;exact showB_ne c _ h
 |c::a,d::l,r,h=>by
  rw[show showR (c::a)=showB c++showR a from rfl,iF]at h;obtain⟨e1,e2⟩:=showB_free (h.trans (show showR (d::l)=showB d++showR l from rfl));obtain⟨l',h1,h2⟩:=showR_head e2;exact⟨l',by rw[h1,e1];rfl,h2⟩
def meant1:List UInt8→UInt8×Nat
 |[]=>(0,0)
 |a::r=>if plain a then(a,1)else if a=92 then
  match r with
  |h::g::_=>if Lib.indexByte digs h<0∨Lib.indexByte digs g<0 then(0,0)
   else if plain (UInt8.ofNat ((Lib.indexByte digs h).toNat*16+(Lib.indexByte digs g).toNat))then(0,0)
   else(UInt8.ofNat ((Lib.indexByte digs h).toNat*16+(Lib.indexByte digs g).toNat),3)
  |_=>(0,0)
  else(0,0)
theorem index_hexc:∀a:Fin 16,Lib.indexByte digs (hexc a.val)=(a.val:Int):=by decide+kernel
theorem index_dig {h:UInt8}(h0:¬Lib.indexByte digs h<0):(Lib.indexByte digs h).toNat<16∧hexc (Lib.indexByte digs h).toNat=h:=by
 obtain⟨o,ho⟩:∃o:Nat,Lib.indexByte digs h=(o:Int):=⟨(Lib.indexByte digs h).toNat,om_⟩;have hs:=(Lib.indexByte_some ho).1;have hl:o<16:=by
  have:=(ip.1 hs).1;simpa[digs]using this
 rw[ho,g_];have h2:=hexc_dig ⟨o,hl⟩;refine⟨hl,?_⟩;have h3:some (hexc o)=some h:=h2.symm.trans hs;exact Option.some.inj h3
theorem meant1_showB (c:UInt8)(r:List UInt8):meant1 (showB c++r)=(c,(showB c).length):=by
 have hc:=c.toNat_lt;unfold showB;cases pc:plain c
 ·have e1:=index_hexc ⟨c.toNat/16,om_⟩;have e2:=index_hexc ⟨c.toNat%16,om_⟩;have e3:UInt8.ofNat (c.toNat/16*16+c.toNat%16)=c:=by rw[show c.toNat/16*16+c.toNat%16=c.toNat by omega];exact UInt8.ofNat_toNat
  simp only[Bool.false_eq_true,if_false,List.cons_append,List.nil_append,meant1,plain_92,if_true];simp only at e1 e2;rw[e1,e2,if_neg om_,g_,g_,e3,pc];rfl
 ·simp only[if_true,List.cons_append,List.nil_append,meant1,pc];rfl
theorem meant1_none {l:List UInt8}(h:(meant1 l).2=0):∀c r,l≠showB c++r:=fun c r e=>by
 rw[e,meant1_showB]at h;have:=showB_len c;simp only at h;omega
def hexb (h g:UInt8):UInt8:=UInt8.ofNat ((Lib.indexByte digs h).toNat*16+(Lib.indexByte digs g).toNat)
theorem m1_plain {a:UInt8}(r:List UInt8)(h:plain a=true):meant1 (a::r)=(a,1):=by simp only[meant1,h,if_true]
theorem m1_other {a:UInt8}(r:List UInt8)(h:plain a=false)(h2:a≠92):meant1 (a::r)=(0,0):=by simp only[meant1,h,Bool.false_eq_true,if_false,if_neg h2]
theorem m1_short {a:UInt8}{r:List UInt8}(h:plain a=false)(hr:r.length<2):meant1 (a::r)=(0,0):=by
 match r,hr with
 |[],_=>by_cases e:a=92<;>simp[meant1,h,e,plain_92]
 |[_],_=>by_cases e:a=92<;>simp[meant1,h,e,plain_92]
 |_::_::_,hr=>simp only[ig]at hr;omega
theorem m1_no {a u g:UInt8}(r:List UInt8)(h:plain a=false)(h2:a=92)(hb:Lib.indexByte digs u<0∨Lib.indexByte digs g<0):meant1 (a::u::g::r)=(0,0):=by
 simp only[meant1,h,Bool.false_eq_true,if_false,if_pos h2,if_pos hb]
theorem m1_twice {a u g:UInt8}(r:List UInt8)(h:plain a=false)(h2:a=92)(hb:¬(Lib.indexByte digs u<0∨Lib.indexByte digs g<0))(hp:plain (hexb u g)=true):meant1 (a::u::g::r)=(0,0):=by
 unfold hexb at hp;simp only[meant1,h,Bool.false_eq_true,if_false,if_pos h2,if_neg hb,hp,if_true]
theorem m1_hex {a u g:UInt8}(r:List UInt8)(h:plain a=false)(h2:a=92)(hb:¬(Lib.indexByte digs u<0∨Lib.indexByte digs g<0))(hp:plain (hexb u g)=false):meant1 (a::u::g::r)=(hexb u g,3):=by
 unfold hexb at hp⊢;simp only[meant1,h,Bool.false_eq_true,if_false,if_pos h2,if_neg hb,hp]
theorem showB_hexb {u g:UInt8}(hb:¬(Lib.indexByte digs u<0∨Lib.indexByte digs g<0))(hp:plain (hexb u g)=false):showB (hexb u g)=[92,u,g]:=by
 obtain⟨u1,u2⟩:=index_dig (h:=u) (fun z=>hb (.inl z));obtain⟨g1,g2⟩:=index_dig (h:=g) (fun z=>hb (.inr z));have e:(hexb u g).toNat=(Lib.indexByte digs u).toNat*16+(Lib.indexByte digs g).toNat:=by unfold hexb;rw[UInt8.toNat_ofNat'];omega
 unfold showB;rw[hp,e,show((Lib.indexByte digs u).toNat*16+(Lib.indexByte digs g).toNat)/16=(Lib.indexByte digs u).toNat by omega,show((Lib.indexByte digs u).toNat*16+(Lib.indexByte digs g).toNat)%16=(Lib.indexByte digs g).toNat by omega,u2,g2];rfl
theorem meant1_some {l:List UInt8}(h:(meant1 l).2≠0):(meant1 l).2≤l.length∧1≤(meant1 l).2∧l=showB (meant1 l).1++l.drop (meant1 l).2:=by
 match l,h with
 |[],h=>exact absurd rfl h
 |a::r,h=>
  cases pa:plain a
  ·by_cases ha:a=92
   ·match r,h with
    |[],h=>exact absurd (by rw[m1_short pa sp_]) h
    |[_],h=>exact absurd (by rw[m1_short pa sp_]) h
    |u::g::r,h=>
     by_cases hb:Lib.indexByte digs u<0∨Lib.indexByte digs g<0
     ·exact absurd (by rw[m1_no r pa ha hb]) h
     ·cases pc:plain (hexb u g)
      ·rw[m1_hex r pa ha hb pc];refine⟨by simp only[ig];omega,by simp only;omega,?_⟩;simp only;rw[showB_hexb hb pc,ha];rfl
      ·exact absurd (by rw[m1_twice r pa ha hb pc]) h
   ·exact absurd (by rw[m1_other r pa ha]) h
  ·rw[m1_plain r pa];refine⟨sp_,by simp only;omega,?_⟩;unfold showB;simp only[pa,if_true];rfl
theorem stuck {acc rest:List UInt8}(h0:rest≠[])(h:∀c r,rest≠showB c++r):∀l,61::(showR acc++rest)≠shows l:=fun l e=>by
 obtain⟨l',_,h2⟩:=showR_head (List.cons.inj e).2;cases l' with
 |nil=>exact h0 h2
 |cons c l'=>exact h c _ h2
abbrev bInode:List UInt8:=[105,110,111,100,101]
abbrev bEntry:List UInt8:=[101,110,116,114,121]
abbrev bData:List UInt8:=[100,97,116,97]
def tailW:List (List UInt8)→List UInt8
 |[]=>[10]
 |x::r=>32::(x++tailW r)
def line:List (List UInt8)→List UInt8
 |[]=>[10]
 |x::r=>x++tailW r
theorem joinTail_tailW:∀r:List (List UInt8),Lib.joinTail [32] r++[10]=tailW r
 |[]=>rfl
 |x::r=>by
  show(([32]++x)++Lib.joinTail [32] r)++[10]=32::(x++tailW r);rw[iF,joinTail_tailW r];rfl
theorem join_line (x:List UInt8)(r:List (List UInt8)):Lib.join (x::r) [32]++[10]=line (x::r):=by
 rw[Lib.join_cons,iF,joinTail_tailW];rfl
def inoW (m:Img)(n:Nat):List (List UInt8):=[bInode,Lib.itoa n,Lib.itoa (m.stamp n),Lib.itoa (m.links n),Lib.itoa (m.part n 0),Lib.itoa (m.part n 1)]
def entW (m:Img)(d s:Nat):List (List UInt8):=[bEntry,Lib.itoa d,Lib.itoa s,(m.name d s).toList,Lib.itoa (m.ino d s),Lib.itoa (m.est d s)]
def datW (m:Img)(x:Nat):List (List UInt8):=[bData,Lib.itoa x,Lib.itoa (m.of x),shows (m.text x).toList]
def upto {α:Type}(f:Nat→List α):Nat→List α
 |0=>[]
 |n+1=>upto f n++f n
theorem mem_upto {α:Type}{f:Nat→List α}{x:α}:∀{n:Nat},x∈upto f n↔∃i,i<n∧x∈f i
 |0=>by simp[upto]
 |n+1=>by
  rw[show upto f (n+1)=upto f n++f n from rfl,iE,mem_upto];constructor
  ·rintro(⟨i,hi,h⟩|h)
   ·exact⟨i,om_,h⟩
   ·exact⟨n,om_,h⟩
  ·rintro⟨i,hi,h⟩;by_cases e:i=n
   ·subst e;exact .inr h
   ·exact .inl ⟨i,om_,h⟩
def stream:List (List (List UInt8))→List UInt8
 |[]=>[]
 |l::r=>line l++stream r
theorem stream_append:∀a b,stream (a++b)=stream a++stream b
 |[],_=>rfl
 |l::a,b=>by show line l++stream (a++b)=(line l++stream a)++stream b;rw[stream_append a b,iF]
def inoL (m:Img)(n:Nat):List (List (List UInt8)):=if m.live n then[inoW m n]else[]
def entL (m:Img)(d s:Nat):List (List (List UInt8)):=if m.named d s then[entW m d s]else[]
def datL (m:Img)(x:Nat):List (List (List UInt8)):=if m.of x=0 then[]else[datW m x]
def dirL (m:Img)(d:Nat):List (List (List UInt8)):=upto (entL m d) 4
def linesI (m:Img)(n:Nat):List (List (List UInt8)):=upto (inoL m) n
def linesD (m:Img)(d:Nat):List (List (List UInt8)):=linesI m 8++upto (dirL m) d
def linesE (m:Img)(d s:Nat):List (List (List UInt8)):=linesD m d++upto (entL m d) s
def linesX (m:Img)(x:Nat):List (List (List UInt8)):=linesD m 3++upto (datL m) x
def lines (m:Img):List (List (List UInt8)):=linesX m 9
def printed (m:Img):List UInt8:=stream (lines m)
theorem stream_one (w:List (List UInt8)):stream [w]=line w:=iM _
theorem linesI_yes {m:Img}{n:Nat}(h:m.live n=true):stream (linesI m (n+1))=stream (linesI m n)++line (inoW m n):=by
 rw[show linesI m (n+1)=linesI m n++inoL m n from rfl,stream_append,inoL,if_pos h,stream_one]
theorem linesI_no {m:Img}{n:Nat}(h:m.live n=false):linesI m (n+1)=linesI m n:=by
 rw[show linesI m (n+1)=linesI m n++inoL m n from rfl,inoL,if_neg (by rw[h];simp),iM]
theorem linesE_yes {m:Img}{d s:Nat}(h:m.named d s=true):stream (linesE m d (s+1))=stream (linesE m d s)++line (entW m d s):=by
 rw[show linesE m d (s+1)=linesD m d++(upto (entL m d) s++entL m d s)from rfl,←iF,stream_append,entL,if_pos h,stream_one];rfl
theorem linesE_no {m:Img}{d s:Nat}(h:m.named d s=false):linesE m d (s+1)=linesE m d s:=by
 rw[show linesE m d (s+1)=linesD m d++(upto (entL m d) s++entL m d s)from rfl,entL,if_neg (by rw[h];simp),iM];rfl
theorem linesE_zero (m:Img)(d:Nat):linesE m d 0=linesD m d:=iM _
theorem linesE_four (m:Img)(d:Nat):linesE m d 4=linesD m (d+1):=by
 show(linesI m 8++upto (dirL m) d)++dirL m d=linesI m 8++(upto (dirL m) d++dirL m d);rw[iF]
theorem linesD_zero (m:Img):linesD m 0=linesI m 8:=iM _
theorem linesX_zero (m:Img):linesX m 0=linesD m 3:=iM _
theorem linesX_yes {m:Img}{x:Nat}(h:m.of x≠0):stream (linesX m (x+1))=stream (linesX m x)++line (datW m x):=by
 rw[show linesX m (x+1)=linesD m 3++(upto (datL m) x++datL m x)from rfl,←iF,stream_append,datL,if_neg h,stream_one];rfl
theorem linesX_no {m:Img}{x:Nat}(h:m.of x=0):linesX m (x+1)=linesX m x:=by
 rw[show linesX m (x+1)=linesD m 3++(upto (datL m) x++datL m x)from rfl,datL,if_pos h,iM];rfl
end Txt
end
section
open Go.RowKit
theorem bu {w w':World}(h:Tab w)(hb:w'.heap[4]? =w.heap[4]?):Tab w':=by
 have hg:Tryz.prog.globalNamed "internal/strconv.uint64pow10"=some 4:=kr_;unfold Tab Lib.TabIs World.var? at h⊢;rw[hg]at h⊢;simp only[Option.bind_some]at h⊢;rw[hb];exact h
theorem fj {w:World}(h:Tab w):4<w.heap.size:=by
 have hg:Tryz.prog.globalNamed "internal/strconv.uint64pow10"=some 4:=kr_;unfold Tab Lib.TabIs World.var? at h;rw[hg]at h;simp only[Option.bind_some]at h;rcases Nat.lt_or_ge 4 w.heap.size with z|z
 ·exact z
 ·rw[iv z]at h;cases h
structure Wr (B b:Nat)(l:List UInt8)(w:World):Prop where
 low:B≤b
 it:∃p v,(p=.pointer none∨p=.pointer (some ⟨b,0,none⟩))∧w.heap[b]? =some (.cells #[p,v] 150 (0,0))∧w.ownsRow B 5 1 v l.length (Lib.byteCells l)∧v.ownBlock≠some b∧(l=[]→v=.slice none 0 0)
theorem Wr.lt {B b:Nat}{l:List UInt8}{w:World}(h:Wr B b l w):b<w.heap.size:=by
 obtain⟨p,v,_,hb,_⟩:=h.it;exact(gW.1 hb).1
theorem Wr.fresh (w:World):Wr w.heap.size w.heap.size [] (w.alloc (.cells #[.pointer none,.slice none 0 0] 150)):=
 ⟨gY _,_,_,.inl rfl,iV w _,World.ownsRow_nil _ _ _ _,by simp[Value.ownBlock],fun _=>rfl⟩
theorem Wr.below {B b:Nat}{l:List UInt8}{w w':World}(h:Wr B b l w)(hb:Below w.heap.size w w'):Wr B b l w':=by
 obtain⟨p,v,hp,h1,h2,h3,h4⟩:=h.it;refine⟨h.low,p,v,hp,by rw[hb.block b h.lt];exact h1,?_,h3,h4⟩;rcases h2.2 with z|⟨g,cap,cur,e1,e2,e3,e4⟩
 ·exact⟨h2.1,.inl z⟩
 ·exact⟨h2.1,.inr ⟨g,cap,cur,e1,e2,by rw[hb.block g (gW.1 e3).1];exact e3,e4⟩⟩
theorem ew:∃i,Tryz.prog.info? 5=some i∧i.zero=some (.int .u8 0)∧i.size=1∧i.bytes=1:=by
 have h:(Tryz.prog.info? 5).map (fun i=>(i.zero,i.size,i.bytes))=some (some (.int .u8 0),1,1):=kr_;cases hq:Tryz.prog.info? 5 with
 |none=>rw[hq]at h;cases h
 |some i=>
  rw[hq]at h;simp only[Option.map_some,Option.some.injEq,Prod.mk.injEq]at h;exact⟨i,rfl,h.1,h.2.1,h.2.2⟩
theorem gL:∃j,Tryz.prog.info? 44=some j∧j.size=2:=by
 have h:(Tryz.prog.info? 44).map (·.size)=some 2:=kr_;obtain⟨j,hj,hjs⟩:=Option.map_eq_some_iff.1 h;exact⟨j,hj,hjs⟩
theorem wr_lies:liesAt Tryz.prog Tryz.prog.depth 150 (2/Tryz.prog.cellsOf 150) 0 44 1=true:=kr_
theorem copyUsed (b:Nat)(w:World)(h0:w.cell? ⟨b,0,none⟩=some (.pointer (some ⟨b,0,none⟩))):
 Calls Tryz.prog 77 #[.pointer (some ⟨b,0,none⟩)] w fun e w'=>e=.returned (.tuple #[])∧w'=w:=by
 obtain⟨j,hj,_⟩:=gL;go_enter Tryz.func77,Tryz.ntmps77;go_wp2;rw[Lib.run_neq_ptr_same w _ Tryz.underlying41 hj];go_wp2;go_end0;exact⟨rfl,rfl⟩
theorem copyFresh (b:Nat)(w:World)(h0:w.cell? ⟨b,0,none⟩=some (.pointer none))(hsh:w.shape? b=some (150,2))(hfz:w.frozen? ⟨b,0,none⟩=false):
 Calls Tryz.prog 77 #[.pointer (some ⟨b,0,none⟩)] w fun e w'=>e=.returned (.tuple #[])∧w'=w.setCell ⟨b,0,none⟩ (.pointer (some ⟨b,0,none⟩)):=by
 obtain⟨j,hj,hjs⟩:=gL;go_enter Tryz.func77,Tryz.ntmps77;go_wp2;rw[Lib.run_to_unsafe w ⟨b,0,none⟩ Tryz.underlying41 Tryz.underlying166 hj (by rw[hjs];decide) hsh (Nat.zero_lt_succ 1)];simp only[Result.andThen];rw[Oper.upon_value];go_wp2;rw[run_callFunc_extern Tryz.func107 kr_ kr_ kr_ (e:=Extern.AbiNoEscape.same) kr_];rw[Lib.run_noEscape];simp only[Result.andThen];rw[Oper.upon_value];go_wp2;rw[Lib.run_from_unsafe w ⟨b,0,none⟩ Tryz.underlying166 Tryz.underlying41 hj hsh wr_lies];simp only[Result.andThen];rw[Oper.upon_value];go_wp2;go_end0;exact⟨rfl,rfl⟩
theorem eK {B b:Nat}{l:List UInt8}{w:World}(h:Wr B b l w):
 Calls Tryz.prog 77 #[.pointer (some ⟨b,0,none⟩)] w fun e w'=>e=.returned (.tuple #[])∧Below B w w'∧∃v,w'.heap[b]? =some (.cells #[.pointer (some ⟨b,0,none⟩),v] 150 (0,0))∧w'.ownsRow B 5 1 v l.length (Lib.byteCells l)∧v.ownBlock≠some b:=by
 obtain⟨p,v,hp,h1,h2,h3,_⟩:=h.it;rcases hp with rfl|rfl
 ·refine(copyFresh b w (by rw[Lib.cell_of_heap h1];rfl) (by simp[World.shape?,h1]) (Lib.frozen_of_heap h1 0)).mono ?_;rintro e w' ⟨rfl,rfl⟩;have hA:Lib.BuilderAt 150 5 B b (.pointer none) (Lib.byteCells l) w:=⟨h.low,v,h1,by rw[Lib.byteCells_length];exact h2,h3⟩;obtain⟨_,v',q1,q2,q3⟩:=hA.used (.pointer (some ⟨b,0,none⟩));exact⟨rfl,(gX B w).setCell (p:=⟨b,0,none⟩) h.low _,v',q1,by rw[Lib.byteCells_length]at q2;exact q2,q3⟩
 ·refine(copyUsed b w (by rw[Lib.cell_of_heap h1];rfl)).mono ?_;rintro e w' ⟨rfl,rfl⟩;exact⟨rfl,gX B _,v,h1,h2,h3⟩
theorem bj {B b:Nat}{l:List UInt8}(c:UInt8){w:World}(h:Wr B b l w)(hlen:l.length+1≤140737488355328)(hBw:B≤w.heap.size):
 Calls Tryz.prog 51 #[.pointer (some ⟨b,0,none⟩),.int .u8 (c.toNat:Int)] w fun e w'=>e=.returned .nilIface∧Wr B b (l++[c]) w'∧Below B w w':=by
 obtain⟨i0,hi,hz0,hz1,hz2⟩:=ew;have hc:=eK h;have hB:=h.low;clear h;obtain⟨cz,hcz⟩:∃z:Int,z=(c.toNat:Int):=⟨_,rfl⟩;rw[←hcz];have HC:=ae hcz;clear hcz;go_enter Tryz.func51,Tryz.ntmps51;go_wp2_with(go_at_call 77;refine hc.mono ?_);rintro e w1 ⟨rfl,hb1,v,hbk,hown,hne⟩;have c0:w1.cell? ⟨b,0,none⟩=some (.pointer (some ⟨b,0,none⟩)):=by rw[Lib.cell_of_heap hbk];rfl
 have c1:w1.cell? ⟨b,1,none⟩=some v:=by rw[Lib.cell_of_heap hbk];rfl
 go_wp2_with(at_builtin;refine wpList_append_own _ rfl _ _ 42 rfl B 5 i0 (.int .u8 0) 1 1 Tryz.underlying42 hi hz0 hz1 hz2 rfl dc_ _ _ _ rfl (hown.alloc _) ⟨w1.heap.size,0,none⟩ 1 1 [.int .u8 cz] rfl rfl ?c1 ?c2 ?c3 ?c4 ?c5 ?_)
 case c1=>
  intro j u hj;match j,hj with
  |0,hj=>simp at hj;subst hj;simp[Addr.add]
 case c2=>intro u hu;simp at hu;subst hu;rfl
 case c3=>unfold maxLen;omega
 case c4=>omega
 case c5=>have:=hb1.size;simp;omega
 intro v' w2 hown' hgrow _;have hlt:b<w1.heap.size:=(gW.1 hbk).1;have hb2:w2.heap[b]? =some (.cells #[.pointer (some ⟨b,0,none⟩),v] 150 (0,0)):=by
  rw[hgrow.block b (by simp;omega) (fun e=>hne e.symm),Lib.alloc_old w1 _ b hlt];exact hbk
 have d0:w2.cell? ⟨b,0,none⟩=some (.pointer (some ⟨b,0,none⟩)):=by rw[Lib.cell_of_heap hb2];rfl
 have d1:w2.cell? ⟨b,1,none⟩=some v:=by rw[Lib.cell_of_heap hb2];rfl
 have f1:w2.frozen? ⟨b,1,none⟩=false:=Lib.frozen_of_heap hb2 1;obtain⟨g,cap,rfl⟩:∃g cap,v'=.slice (some ⟨g,0,none⟩) (l.length+1) cap:=by
  rcases hown'.2 with⟨_,h0⟩|⟨g,cap,cur,hv,_⟩
  ·omega
  ·exact⟨g,cap,hv⟩
 have EC:=ae (show Lib.byteCells l++[Value.int .u8 cz]=Lib.byteCells (l++[c])by rw[ac HC];simp[Lib.byteCells]);go_wp2;go_ret;have hput:=Lib.BuilderAt.put (T:=150) (e:=5) hB hb2 (bs':=Lib.byteCells l++[.int .u8 cz]) (by rw[gZ,Lib.byteCells_length];simpa using hown') dc_;rw[ac EC]at hput;obtain⟨_,v2,q1,q2,q3⟩:=hput;refine⟨rfl,⟨hB,_,v2,.inr rfl,q1,by rw[Lib.byteCells_length]at q2;exact q2,q3,fun z=>by simp at z⟩,?_⟩;exact((hb1.alloc (by have:=hb1.size;omega) _).grown hgrow (by have:=hb1.size;simp;omega) (fun k hk=>(hown.lt k hk).1)).setCell (p:=⟨b,1,none⟩) hB _
theorem fK {B b:Nat}{l:List UInt8}(s:ByteArray){w:World}(h:Wr B b l w)(hs:1≤s.size)(hlen:l.length+s.size≤140737488355328)(hBw:B≤w.heap.size):
 Calls Tryz.prog 50 #[.pointer (some ⟨b,0,none⟩),.string s] w fun e w'=>e=.returned (.tuple #[.int .i64 s.size,.nilIface])∧Wr B b (l++s.toList) w'∧Below B w w':=by
 obtain⟨i0,hi,hz0,hz1,hz2⟩:=ew;have hc:=eK h;have hB:=h.low;clear h;go_enter Tryz.func50,Tryz.ntmps50;go_wp2_with(go_at_call 77;refine hc.mono ?_);rintro e w1 ⟨rfl,hb1,v,hbk,hown,hne⟩;have c0:w1.cell? ⟨b,0,none⟩=some (.pointer (some ⟨b,0,none⟩)):=by rw[Lib.cell_of_heap hbk];rfl
 have c1:w1.cell? ⟨b,1,none⟩=some v:=by rw[Lib.cell_of_heap hbk];rfl
 go_wp2_with(at_builtin;refine Lib.wpList_append_own_string _ rfl _ _ 42 9 rfl B 5 i0 Tryz.underlying42 Tryz.underlying9 hi hz0 hz1 hz2 _ _ _ rfl hown s rfl ?c3 ?c4 ?c5 ?_)
 case c3=>unfold maxLen;omega
 case c4=>omega
 case c5=>have:=hb1.size;omega
 intro v' w2 hown' hgrow _;have hlt:b<w1.heap.size:=(gW.1 hbk).1;have hb2:w2.heap[b]? =some (.cells #[.pointer (some ⟨b,0,none⟩),v] 150 (0,0)):=by
  rw[hgrow.block b hlt (fun e=>hne e.symm)];exact hbk
 have d0:w2.cell? ⟨b,0,none⟩=some (.pointer (some ⟨b,0,none⟩)):=by rw[Lib.cell_of_heap hb2];rfl
 have d1:w2.cell? ⟨b,1,none⟩=some v:=by rw[Lib.cell_of_heap hb2];rfl
 have f1:w2.frozen? ⟨b,1,none⟩=false:=Lib.frozen_of_heap hb2 1;obtain⟨ao,n',cap,rfl⟩:∃ao n' cap,v'=.slice ao n' cap:=by
  rcases hown'.2 with⟨hv,_⟩|⟨g,cap,cur,hv,_⟩
  ·exact⟨_,_,_,hv⟩
  ·exact⟨_,_,_,hv⟩
 have EC:=ae (show Lib.byteCells l++Lib.strCells s=Lib.byteCells (l++s.toList)by rw[ByteArray.toList_eq,Lib.byteCells_append];rfl);have ES:=ae (show s.toList.length=s.size by rw[ByteArray.toList_eq];rfl);go_wp2;go_ret2;have hput:=Lib.BuilderAt.put (T:=150) (e:=5) hB hb2 (bs':=Lib.byteCells l++Lib.strCells s) (by simpa[Lib.byteCells_length,Lib.strCells_length]using hown') dc_;rw[ac EC]at hput;obtain⟨_,v2,q1,q2,q3⟩:=hput;refine⟨rfl,⟨hB,_,v2,.inr rfl,q1,by rw[Lib.byteCells_length]at q2;exact q2,q3,fun z=>?_⟩,?_⟩
 ·have:=congrArg List.length z;rw[gZ,ac ES,iN]at this;omega
 ·exact(hb1.grown hgrow (by have:=hb1.size;omega) (fun k hk=>(hown.lt k hk).1)).setCell (p:=⟨b,1,none⟩) hB _
theorem string_none {B b:Nat}{w:World}{p:Value}(hbk:w.heap[b]? =some (.cells #[p,.slice none 0 0] 150 (0,0))):
 Calls Tryz.prog 20 #[.pointer (some ⟨b,0,none⟩)] w fun e w'=>e=.returned (.string ⟨#[]⟩)∧Below w.heap.size w w':=by
 have c1:w.drew.cell? ⟨b,1,none⟩=some (.slice none 0 0):=by
  have:w.drew.heap[b]? =some (.cells #[p,.slice none 0 0] 150 (0,0)):=hbk;rw[Lib.cell_of_heap this];rfl
 have hSD:(Builtin.unsafeSliceData_ #[42] 93 #[.slice none 0 0]).run Tryz.prog w.drew=.ok (.pointer none) w.drew:=Lib.run_unsafeSliceData_nil _ _ _ _ _;have hUS:(Builtin.unsafeString_ #[93,3] 9 #[.pointer none,.int .i64 0]).run Tryz.prog w.drew=.ok (.string ⟨#[]⟩) w.drew:=Lib.run_unsafeString_none _ _ _ _ _;have mixed:Tryz.prog.follows Departure.mixedOrders=true:=kr_;go_enter Tryz.func20,Tryz.ntmps20;go_wp2;go_region_o;all_goals(go_wp2;go_ret;exact⟨rfl,(gX _ w).drew⟩)
theorem string_some {B b:Nat}{l:List UInt8}{w:World}(h:Wr B b l w)(h0:l≠[]):
 Calls Tryz.prog 20 #[.pointer (some ⟨b,0,none⟩)] w fun e w'=>e=.returned (.string ⟨l.toArray⟩)∧Below B w w':=by
 obtain⟨p,v,hp,hbk,hown,hne,_⟩:=h.it;have hl0:l.length≠0:=by simpa using h0
 obtain⟨g,cap,cur,rfl,hbg,hg,hnc,hcm,hcs,htake⟩:∃g cap cur,v=.slice (some ⟨g,0,none⟩) l.length cap∧B≤g∧w.heap[g]? =some (.cells cur 5)∧l.length≤cap∧cap≤maxLen∧cur.size=cap*1∧cur.toList.take (l.length*1)=Lib.byteCells l:=by
  rcases hown.2 with⟨_,hz⟩|⟨g,cap,cur,hv,r⟩
  ·exact absurd hz hl0
  ·exact⟨g,cap,cur,hv,r⟩
 have c1:w.drew.cell? ⟨b,1,none⟩=some (.slice (some ⟨g,0,none⟩) l.length cap):=by
  have:w.drew.heap[b]? =some (.cells #[p,.slice (some ⟨g,0,none⟩) l.length cap] 150 (0,0)):=hbk;rw[Lib.cell_of_heap this];rfl
 have hSD:(Builtin.unsafeSliceData_ #[42] 93 #[.slice (some ⟨g,0,none⟩) l.length cap]).run Tryz.prog w.drew=.ok (.pointer (some ⟨g,0,none⟩)) w.drew:=
  Lib.run_unsafeSliceData_row _ _ _ _ _ _ om_
 have hcb:Tryz.prog.cellsOf 5=1:=kr_;have hUS:(Builtin.unsafeString_ #[93,3] 9 #[.pointer (some ⟨g,0,none⟩),.int .i64 l.length]).run Tryz.prog w.drew=.ok (.string ⟨l.toArray⟩) (w.drew.freeze ⟨g,0,none⟩ l.length):=by
  refine Lib.run_unsafeString_row w.drew 93 3 9 5 Tryz.underlying93 hcb g cur.size (by have hg':w.drew.heap[g]? =some (.cells cur 5):=hg;simp[World.shape?,hg']) l h0 om_ (by unfold maxLen at hcm;omega) ?_;intro j x hx;have:=hown.cells (g:=g) rfl j (.int .u8 x.toNat) (by simp[Lib.byteCells,hx]);exact this
 have BB:=ae (Lib.below_freeze (Below.drew (gX B w)) (p:=⟨g,0,none⟩) hbg l.length);clear hp hbk hown hne hg hnc hcm hcs htake h hbg;have mixed:Tryz.prog.follows Departure.mixedOrders=true:=kr_;go_enter Tryz.func20,Tryz.ntmps20;go_wp2;go_region_o;all_goals(go_wp2;go_ret;exact⟨rfl,ac BB⟩)
theorem eN {B b:Nat}{l:List UInt8}{w:World}(h:Wr B b l w)(hBw:B≤w.heap.size):
 Calls Tryz.prog 20 #[.pointer (some ⟨b,0,none⟩)] w fun e w'=>e=.returned (.string ⟨l.toArray⟩)∧Below B w w':=by
 by_cases h0:l=[]
 ·subst h0;obtain⟨p,v,_,hbk,_,_,hv⟩:=h.it;rw[hv rfl]at hbk;exact(string_none (B:=B) hbk).mono fun e w' ⟨he,hb⟩=>⟨he,hb.mono hBw⟩
 ·exact string_some h h0
end
section
open Go.RowKit
theorem plainI (z:Int)(w:World):
 Calls Tryz.prog 158 #[.int .u8 z] w fun e w'=>e=.returned (.bool (decide (33≤z)&&decide (z≤126)&& !(z==92)))∧w'=w:=by
 by_cases h1:33≤z
 ·have q1:decide (33≤z)=true:=by simpa using h1
  by_cases h2:z≤126
  ·have q2:decide (z≤126)=true:=by simpa using h2
   rw[q1,q2];clear h1 h2;go_enter Tryz.func158,Tryz.ntmps158;go_wp2;go_ret;exact⟨by simp[bne],rfl⟩
  ·have q2:decide (z≤126)=false:=by simpa using h2
   rw[q1,q2];clear h1 h2;go_enter Tryz.func158,Tryz.ntmps158;go_wp2;go_ret;exact⟨sp_,rfl⟩
 ·have q1:decide (33≤z)=false:=by simpa using h1
  rw[q1];clear h1;go_enter Tryz.func158,Tryz.ntmps158;go_wp2;go_ret;exact⟨sp_,rfl⟩
theorem plain_int (c:UInt8):(decide ((33:Int)≤(c.toNat:Int))&&decide ((c.toNat:Int)≤126)&& !((c.toNat:Int)==92))=Txt.plain c:=by
 unfold Txt.plain;have e1:decide ((33:Int)≤(c.toNat:Int))=decide (33≤c.toNat):=decide_eq_decide.2 om_;have e2:decide ((c.toNat:Int)≤126)=decide (c.toNat≤126):=decide_eq_decide.2 om_;have e3:((c.toNat:Int)==92)=(c==92):=by
  rw[Bool.eq_iff_iff,beq_iff_eq,beq_iff_eq,←UInt8.toNat_inj];show(c.toNat:Int)=92↔c.toNat=92;omega
 rw[e1,e2,e3]
theorem ft (c:UInt8)(w:World):
 Calls Tryz.prog 158 #[.int .u8 (c.toNat:Int)] w fun e w'=>e=.returned (.bool (Txt.plain c))∧w'=w:=by
 rw[←plain_int];exact plainI _ w
theorem hex_at:∀a:Fin 16,(⟨#[48,49,50,51,52,53,54,55,56,57,97,98,99,100,101,102]⟩:ByteArray).toList[a.val]? =some (Txt.hexc a.val):=by decide+kernel
theorem andT:∀c:Fin 256,bits BinOp.and IntKind.u8 (c.val:Int) 15=((c.val%16:Nat):Int):=by decide+kernel
theorem hex_get {n:Nat}(hn:n<16):(⟨#[48,49,50,51,52,53,54,55,56,57,97,98,99,100,101,102]⟩:ByteArray)[n]'(by show n<16;exact hn)=Txt.hexc n:=by
 have h:=hex_at ⟨n,hn⟩;rw[ByteArray.toList_eq]at h;obtain⟨_,h4⟩:=ip.1 h;exact h4
theorem ix_str {o:Oper}{ρ:Operand→Value}{S:ByteArray}(x y:Operand)(ho:o.op=.index 9 x y)(hx:ρ x=.string S){n:Nat}(hy:ρ y=.int .u8 (n:Int))(hn:n<S.size){v:UInt8}(hv:S[n]=v)(w:World):(execOp ρ o).run Tryz.prog w=.ok (.value (.int .u8 (v.toNat:Int))) w:=by
 have hz:(n:Int)<(S.size:Int):=om_;unfold execOp;rw[ho];go_simp
theorem shrT {o:Oper}{ρ:Operand→Value}(x:Operand)(ho:o.op=.binOp .shr 5 x (.const (.int .u64 4)) 37)(hc:ρ (.const (.int .u64 4))=.int .u64 4){n:Nat}(hx:ρ x=.int .u8 (n:Int))(w:World):(execOp ρ o).run Tryz.prog w=.ok (.value (.int .u8 ((n/16:Nat):Int))) w:=by
 unfold execOp;rw[ho];go_simp
theorem andTT {o:Oper}{ρ:Operand→Value}(x:Operand)(ho:o.op=.binOp .and 5 x (.const (.int .u8 15)) 5)(hc:ρ (.const (.int .u8 15))=.int .u8 15){n:Nat}(hn:n<256)(hx:ρ x=.int .u8 (n:Int))(w:World):(execOp ρ o).run Tryz.prog w=.ok (.value (.int .u8 ((n%16:Nat):Int))) w:=by
 have:=andT ⟨n,hn⟩;unfold execOp;rw[ho];go_simp
theorem show_any {B b:Nat}{l:List UInt8}(c:UInt8){w:World}(h:Wr B b l w)(hlen:l.length+3≤140737488355328)(hBw:B≤w.heap.size):
 Calls Tryz.prog 118 #[.pointer (some ⟨b,0,none⟩),.int .u8 (c.toNat:Int)] w fun e w'=>e=.returned (.tuple #[])∧Wr B b (l++Txt.showB c) w'∧Below B w w':=by
 have hp:=ft c w;have hc:=c.toNat_lt;cases pc:Txt.plain c<;>rw[pc]at hp
 case true=>
  have W1:=ae (bj c h om_ hBw);have E1:=ae (show Txt.showB c=[c]by unfold Txt.showB;rw[pc];rfl);clear h pc hc;generalize(c.toNat:Int)=cz at hp W1⊢;go_enter Tryz.func118,Tryz.ntmps118;go_wp2_with(go_at_call 158;refine hp.mono ?_;rintro e w0 ⟨rfl,e9⟩;rw[e9];clear e9 w0 hp);refine(ac W1).mono ?_;rintro e w1 ⟨rfl,h1,b1⟩;go_wp2_with fail;(try simp only[Exit.inBlock,Exit.then]);refine bodyPost_ret (results_none rfl _ _ _) rfl ?_;exact⟨rfl,by rw[ac E1];exact h1,b1⟩
 have E1:=ae (show Txt.showB c=[92,Txt.hexc (c.toNat/16),Txt.hexc (c.toNat%16)]by unfold Txt.showB;rw[pc];rfl);have W1:=ae (bj 92 h om_ hBw);have W2:=ae (fun V (h:Wr B b (l++[92]) V)(hB:B≤V.heap.size)=>bj (Txt.hexc (c.toNat/16)) h (by simp;omega) hB);have W3:=ae (fun V (h:Wr B b (l++[92]++[Txt.hexc (c.toNat/16)]) V)(hB:B≤V.heap.size)=>bj (Txt.hexc (c.toNat%16)) h (by simp;omega) hB);have SZ:=ae hBw;clear h pc hlen hBw;generalize c.toNat=n at hp W1 W2 W3 E1 hc⊢;go_enter Tryz.func118,Tryz.ntmps118;go_wp2_with(go_at_call 158;refine hp.mono ?_;rintro e w0 ⟨rfl,e9⟩;rw[e9];clear e9 w0 hp);refine(ac W1).mono ?_;rintro e w1 ⟨rfl,h1,b1⟩;have H1:=ae h1;have B1:=ae b1;clear h1 b1 W1;go_upto_region 3 with fail
 refine aA (S:=fun _=>True) 6 kr_ (trivial) (fun hS=>?_);refine frQ 0 b 0 rfl trivial ?_;refine frQ 1 b 0 rfl trivial ?_;refine fkQ 2 b 0 rfl trivial ?_;refine frP 3 (.int .u8 (n:Int)) rfl trivial ?_;refine frH 4 (.int .u8 ((n/16:Nat):Int)) rfl (fun W _=>shrT (.tmp 18) kr_ kr_ kr_ W) trivial ?_;refine fkH 5 (.int .u8 ((Txt.hexc (n/16)).toNat:Int)) rfl (fun W h=>ix_str (S:=⟨#[48,49,50,51,52,53,54,55,56,57,97,98,99,100,101,102]⟩) (.const (.string ⟨#[48,49,50,51,52,53,54,55,56,57,97,98,99,100,101,102]⟩)) (.tmp 19) kr_ kr_ kr_ (show n/16<16 by omega) (hex_get om_) W) trivial ?_;refine fkL rfl (fun K hK=>?_);go_simp;refine(ac W2 _ (show Wr B b (l++[92]) w1.drew from(ac H1).below (gX _ w1).drew) (h_ (ac SZ) (ac B1).size)).mono ?_;rintro e w2 ⟨rfl,h2,b2⟩;have H2:=ae h2;have B2:=ae (show Below B w w2 from(ac B1).trans ((show Below B w1 w1.drew from(gX _ w1).drew).trans b2));clear h2 b2 H1 B1 W2;go_wp2_with fail;refine hK.out _ _ ?_;clear hK K;try simp only[Zsm]
 refine fkD ?_;clear hS;go_upto_region 4 with fail
 refine aA (S:=fun _=>True) 6 kr_ (trivial) (fun hS=>?_);refine frQ 0 b 0 rfl trivial ?_;refine frQ 1 b 0 rfl trivial ?_;refine fkQ 2 b 0 rfl trivial ?_;refine frP 3 (.int .u8 (n:Int)) rfl trivial ?_;refine frH 4 (.int .u8 ((n%16:Nat):Int)) rfl (fun W _=>andTT (.tmp 25) kr_ kr_ hc kr_ W) trivial ?_;refine fkH 5 (.int .u8 ((Txt.hexc (n%16)).toNat:Int)) rfl (fun W h=>ix_str (S:=⟨#[48,49,50,51,52,53,54,55,56,57,97,98,99,100,101,102]⟩) (.const (.string ⟨#[48,49,50,51,52,53,54,55,56,57,97,98,99,100,101,102]⟩)) (.tmp 26) kr_ kr_ kr_ (show n%16<16 by omega) (hex_get om_) W) trivial ?_;refine fkL rfl (fun K hK=>?_);go_simp;refine(ac W3 _ (show Wr B b (l++[92]++[Txt.hexc (n/16)]) w2.drew from(ac H2).below (gX _ w2).drew) (h_ (ac SZ) (ac B2).size)).mono ?_;rintro e w3 ⟨rfl,h3,b3⟩;have H3:=ae h3;have B3:=ae (show Below B w w3 from(ac B2).trans ((show Below B w2 w2.drew from(gX _ w2).drew).trans b3));clear h3 b3 H2 B2 W3;go_wp2_with fail;refine hK.out _ _ ?_;clear hK K;try simp only[Zsm]
 refine fkD ?_;clear hS;go_wp2_with fail;go_end0;exact⟨rfl,by rw[ac E1];simpa using ac H3,ac B3⟩
theorem take_byte (s:ByteArray){k:Nat}(hk:k<s.size):s.toList.take (k+1)=s.toList.take k++[s[k]]:=by
 rw[ByteArray.toList_eq];have hk2:k<s.data.toList.length:=hk;rw[List.take_add_one,iB hk2];rfl
theorem ap (s:ByteArray):s.toList.length=s.size:=by rw[ByteArray.toList_eq];rfl
theorem Show_any (s:ByteArray)(hs:s.size≤1000000000)(w:World):
 Calls Tryz.prog 83 #[.string s] w fun e w'=>e=.returned (.string ⟨(Txt.shows s.toList).toArray⟩)∧Below w.heap.size w w':=by
 have H0:=ae (bj 61 (Wr.fresh w) sp_ sp_);go_enter Tryz.func83,Tryz.ntmps83;go_wp2_with fail;refine(ac H0).mono ?_;rintro e w1 ⟨rfl,h1,b1⟩;have H1:=ae h1;have B1:=ae (show Below w.heap.size w w1 from((gX _ w).alloc (gY _) _).trans b1);clear h1 b1 H0;generalize hB:w.heap.size=B at H1 B1⊢;have HB:=ae hB;clear hB;go_wp2_with fail;go_loopw [9] (fun i wr=>∃k:Nat,k≤s.size∧i=.int .i64 k∧Hid (Wr B B (61::Txt.showR (s.toList.take k)) wr)∧Hid (Below B w wr)) (fun i _=>s.size-(intOf i).toNat)
 case atStart=>exact⟨0,hZ _,rfl,H1,B1⟩
 case round=>
  clear H1 B1;obtain⟨k,hk,rfl,H1,B1⟩:=hrel;by_cases hlt:k<s.size
  case pos=>
   have hz:(k:Int)<(s.size:Int):=om_;have LN:=ae (Txt.showR_len (s.toList.take k));have D:=ae (show_any (s[k]) (ac H1) (by have:=(ac LN).2;rw[iI,ap]at this;rw[ig];omega) (Nat.le_of_lt (ac H1).lt));have E:=ae (show 61::Txt.showR (s.toList.take (k+1))=61::Txt.showR (s.toList.take k)++Txt.showB (s[k])by rw[take_byte s hlt,Txt.showR_append,Txt.showR_one];rfl);go_wp2_with fail;refine(ac D).mono ?_;rintro e w2 ⟨rfl,h2,b2⟩;have H2:=ae (show Wr B B (61::Txt.showR (s.toList.take (k+1))) w2 by rw[ac E];exact h2);have B2:=ae (show Below B w w2 from(ac B1).trans b2);clear h2 b2 D E LN;go_wp2_with fail;go_roundw
   case rel=>exact⟨k+1,om_,by go_num,H2,B2⟩
   case measure=>simp[intOf];omega
  case neg=>
   have E:=ae (show s.toList.take k=s.toList from List.take_of_length_le (by rw[ap];omega));have D:=ae (eN (ac H1) (Nat.le_of_lt (ac H1).lt));go_wp2_with fail;refine(ac D).mono ?_;rintro e w2 ⟨rfl,b2⟩;have B2:=ae (show Below B w w2 from(ac B1).trans b2);clear b2 D;go_wp2_with fail;go_ret;exact⟨by rw[ac E];rfl,by rw[ac HB];exact ac B2⟩
theorem index_digs (c:UInt8)(w:World):Calls Tryz.prog 189 #[.string ⟨#[48,49,50,51,52,53,54,55,56,57,97,98,99,100,101,102]⟩,.int .u8 (c.toNat:Int)] w fun e w'=>e=.returned (.int .i64 (Lib.indexByte Txt.digs c))∧w'=w:=by
 refine(index_any _ _ w).mono fun e w' ⟨he,hw⟩=>⟨?_,hw⟩;rw[he,g_,show c.toNat.toUInt8=c from UInt8.ofNat_toNat];rfl
theorem bO (s:ByteArray)(h:0<s.size):s.toList=s[0]::s.toList.drop 1:=by
 rw[ByteArray.toList_eq];have h2:0<s.data.toList.length:=h;have:=List.drop_eq_getElem_cons h2;rw[List.drop_zero]at this;exact this
theorem dV (s:ByteArray)(h:2<s.size):s.toList=s[0]::s[1]::s[2]::s.toList.drop 3:=by
 rw[ByteArray.toList_eq];have h2:2<s.data.toList.length:=h;have e0:=List.drop_eq_getElem_cons (show 0<s.data.toList.length by omega);have e1:=List.drop_eq_getElem_cons (show 1<s.data.toList.length by omega);have e2:=List.drop_eq_getElem_cons h2;rw[List.drop_zero]at e0;rw[e0,e1,e2];rfl
theorem hexT:∀a b:Fin 16,bits BinOp.or IntKind.i64 (wrap64 ((a.val:Int)*16)) (b.val:Int)%256=((UInt8.ofNat (a.val*16+b.val)).toNat:Int):=by decide+kernel
theorem hexTT {u g:UInt8}(hb:¬(Lib.indexByte Txt.digs u<0∨Lib.indexByte Txt.digs g<0)):bits BinOp.or IntKind.i64 (wrap64 (Lib.indexByte Txt.digs u*16)) (Lib.indexByte Txt.digs g)%256=((Txt.hexb u g).toNat:Int):=by
 obtain⟨u1,_⟩:=Txt.index_dig (h:=u) (fun z=>hb (.inl z));obtain⟨g1,_⟩:=Txt.index_dig (h:=g) (fun z=>hb (.inr z));have:=hexT ⟨_,u1⟩ ⟨_,g1⟩;simp only at this;rw[Int.toNat_of_nonneg om_,Int.toNat_of_nonneg om_]at this;exact this
theorem meant_any (s:ByteArray)(h1:0<s.size)(w:World):
 Calls Tryz.prog 142 #[.string s] w fun e w'=>(∃c n,Txt.meant1 s.toList=(c,n)∧e=.returned (.tuple #[.int .u8 (c.toNat:Int),.int .i64 (n:Int)]))∧Below w.heap.size w w':=by
 have z1:(0:Int)<(s.size:Int):=om_;have hp:=ft (s[0]) w;cases pc:Txt.plain (s[0])<;>rw[pc]at hp
 case true=>
  have E:=ae (show Txt.meant1 s.toList=(s[0],1)by rw[bO s h1];exact Txt.m1_plain _ pc);clear pc;go_enter Tryz.func142,Tryz.ntmps142;go_wp2_with(go_at_call 158;refine hp.mono ?_;rintro e w0 ⟨rfl,e9⟩;rw[e9];clear e9 w0 hp);go_ret2;exact⟨⟨_,_,ac E,rfl⟩,gX _ _⟩
 by_cases h92:s[0]=92
 case neg=>
  have E:=ae (show Txt.meant1 s.toList=(0,0)by rw[bO s h1];exact Txt.m1_other _ pc h92);have q1:(((s[0]).toNat:Int)==92)=false:=by
   rw[iG];intro z;rw[beq_iff_eq]at z;exact h92 (UInt8.toNat_inj.1 (by show(s[0]).toNat=92;omega))
  have n92:¬(s[0]).toNat=92:=fun z=>h92 (UInt8.toNat_inj.1 z)
  clear pc h92;go_enter Tryz.func142,Tryz.ntmps142;go_wp2_with(go_at_call 158;refine hp.mono ?_;rintro e w0 ⟨rfl,e9⟩;rw[e9];clear e9 w0 hp);go_ret2;exact⟨⟨0,0,ac E,rfl⟩,gX _ _⟩
 have y92:(s[0]).toNat=92:=by rw[h92];rfl
 have hp:Calls Tryz.prog 158 #[.int .u8 92] w fun e w'=>e=.returned (.bool false)∧w'=w:=plainI 92 w
 by_cases h3:s.size<3
 case pos=>
  have E:=ae (show Txt.meant1 s.toList=(0,0)by rw[bO s h1];exact Txt.m1_short pc (by rw[iK,ap];omega));have z3:(s.size:Int)<3:=om_;clear pc h92 h3;go_enter Tryz.func142,Tryz.ntmps142;go_wp2_with(go_at_call 158;refine hp.mono ?_;rintro e w0 ⟨rfl,e9⟩;rw[e9];clear e9 w0 hp);go_ret2;exact⟨⟨0,0,ac E,rfl⟩,gX _ _⟩
 have z3:¬(s.size:Int)<3:=om_;have y1:(1:Int)<(s.size:Int):=om_;have y2:(2:Int)<(s.size:Int):=om_;have NO:=ae (show(Lib.indexByte Txt.digs (s[1])<0∨Lib.indexByte Txt.digs (s[2])<0)→Txt.meant1 s.toList=(0,0)from fun z=>by rw[dV s om_];exact Txt.m1_no _ pc h92 z);have TW:=ae (show ¬(Lib.indexByte Txt.digs (s[1])<0∨Lib.indexByte Txt.digs (s[2])<0)→Txt.plain (Txt.hexb (s[1]) (s[2]))=true→Txt.meant1 s.toList=(0,0)from fun z y=>by rw[dV s om_];exact Txt.m1_twice _ pc h92 z y);have HX:=ae (show ¬(Lib.indexByte Txt.digs (s[1])<0∨Lib.indexByte Txt.digs (s[2])<0)→Txt.plain (Txt.hexb (s[1]) (s[2]))=false→Txt.meant1 s.toList=(Txt.hexb (s[1]) (s[2]),3)from fun z y=>by rw[dV s om_];exact Txt.m1_hex _ pc h92 z y);have HT:=ae (hexTT (u:=s[1]) (g:=s[2]));clear pc h92;go_enter Tryz.func142,Tryz.ntmps142;go_upto_region 5 with(go_at_call 158;refine hp.mono ?_;rintro e w0 ⟨rfl,e9⟩;rw[e9];clear e9 w0 hp);go_cut [4,5]from 20 to 25 (fun p q wx=>p=.int .i64 (Lib.indexByte Txt.digs (s[1]))∧q=.int .i64 (Lib.indexByte Txt.digs (s[2]))∧Hid (Below w.heap.size w wx))
 case first=>
  go_quiet ((go_at_call 189;exact Calls.quiet_of_same (index_digs _ _)))
  go_wp2_with fail;go_meet;exact⟨rfl,rfl,ae ⟨rfl,rfl,rfl,gY _,fun _ _=>rfl⟩⟩
 case rest=>
 obtain⟨rfl,rfl,HB⟩:=hcut;generalize Lib.indexByte Txt.digs (s[1])=i1 at NO TW HX HT⊢;generalize Lib.indexByte Txt.digs (s[2])=i2 at NO TW HX HT⊢;generalize Txt.hexb (s[1]) (s[2])=hb at TW HX HT;by_cases q1:i1<0
 case pos=>
  have d1:decide (i1<0)=true:=by simpa using q1
  have E:=ae (ac NO (.inl q1));clear q1;go_wp2_with fail;go_ret2;exact⟨⟨0,0,ac E,rfl⟩,ac HB⟩
 have d1:decide (i1<0)=false:=by simpa using q1
 by_cases q2:i2<0
 case pos=>
  have d2:decide (i2<0)=true:=by simpa using q2
  have E:=ae (ac NO (.inr q2));clear q1 q2;go_wp2_with fail;go_ret2;exact⟨⟨0,0,ac E,rfl⟩,ac HB⟩
 have d2:decide (i2<0)=false:=by simpa using q2
 have qn:¬(i1<0∨i2<0):=om_;have ht:=ac HT qn;have hp2:=ae fun W=>ft hb W
 cases pb:Txt.plain hb
 case true=>
  have E:=ae (ac TW qn pb);rw[pb]at hp2;clear q1 q2 qn pb TW HX HT NO;go_wp2_with(go_at_call 158;rw[ht];refine(ac hp2 _).mono ?_;rintro e w0 ⟨rfl,e9⟩;rw[e9];clear e9 w0 hp2);go_ret2;exact⟨⟨0,0,ac E,rfl⟩,ac HB⟩
 have E:=ae (ac HX qn pb);rw[pb]at hp2;clear q1 q2 qn pb TW HX HT NO;go_wp2_with(go_at_call 158;rw[ht];refine(ac hp2 _).mono ?_;rintro e w0 ⟨rfl,e9⟩;rw[e9];clear e9 w0 hp2);go_ret2;exact⟨⟨hb,3,ac E,rfl⟩,ac HB⟩
theorem dJ (s:ByteArray)(n:Nat):(s.extract n s.size).toList=s.toList.drop n:=by
 rw[ByteArray.toList_eq,ByteArray.toList_eq,ByteArray.data_extract,Array.toList_extract];show(s.data.toList.drop n).take (s.size-n)=_;rw[List.take_of_length_le (by rw[iK];exact gY _)]
def strOf:Value→ByteArray
 |.string s=>s
 |_=>.empty
def dx (s:ByteArray)(e:Ending):Prop:=
 (∃l,s.toList=Txt.shows l∧e=.returned (.tuple #[.string ⟨l.toArray⟩,.bool true]))∨((∀l,s.toList≠Txt.shows l)∧e=.returned (.tuple #[.string ⟨#[]⟩,.bool false]))
theorem Mean_any (s:ByteArray)(hs:s.size≤1000000000)(w:World):
 Calls Tryz.prog 106 #[.string s] w fun e w'=>dx s e∧Below w.heap.size w w':=by
 by_cases h0:s.size=0
 case pos=>
  have e0:s.toList.isEmpty=true:=by rw[List.isEmpty_iff];exact List.eq_nil_of_length_eq_zero (by rw[ap];exact h0)
  have F:=ae (show dx s (.returned (.tuple #[.string ⟨#[]⟩,.bool false]))from .inr ⟨fun l e=>by have:=congrArg List.length e;rw[ap,h0]at this;simp[Txt.shows]at this,rfl⟩);clear h0;go_enter Tryz.func106,Tryz.ntmps106;go_wp2_with fail;go_ret2;exact⟨ac F,gX _ _⟩
 have h1:0<s.size:=om_;have e0:s.toList.isEmpty=false:=by
  rw[bO s h1];rfl
 have z1:(0:Int)<(s.size:Int):=om_;by_cases h61:s[0]=61
 case neg=>
  have F:=ae (show dx s (.returned (.tuple #[.string ⟨#[]⟩,.bool false]))from .inr ⟨fun l e=>by rw[bO s h1]at e;exact h61 (List.cons.inj e).1,rfl⟩);have n61:¬(s[0]).toNat=61:=fun z=>h61 (UInt8.toNat_inj.1 z)
  clear h0 h61;go_enter Tryz.func106,Tryz.ntmps106;go_wp2_with fail;go_ret2;exact⟨ac F,gX _ _⟩
 have y61:(s[0]).toNat=61:=by rw[h61];rfl
 have hsz:(1:Int)≤(s.size:Int):=om_;have ES:=ae (show s.toList=61::(s.extract 1 s.size).toList by rw[dJ];rw[←h61];exact bO s h1);have ER:=ae (show(s.extract 1 s.size).size≤s.size by rw[←ap,dJ,iK,ap];omega);clear h61 h0;have FR:=ae (Wr.fresh w);have BF:=ae (show Below w.heap.size w (w.alloc (.cells #[.pointer none,.slice none 0 0] 150))from(gX _ w).alloc (gY _) _);go_enter Tryz.func106,Tryz.ntmps106;go_wp2_with fail;generalize w.alloc (.cells #[.pointer none,.slice none 0 0] 150)=w1 at FR BF⊢;generalize hB:w.heap.size=B at FR BF⊢;have HB:=ae hB;clear hB;go_loopw [5] (fun r wr=>∃(acc:List UInt8)(rest:ByteArray),r=.string rest∧s.toList=61::(Txt.showR acc++rest.toList)∧rest.size≤s.size∧Hid (Wr B B acc wr)∧Hid (Below B w wr)) (fun r _=>(strOf r).size)
 case atStart=>exact⟨[],_,rfl,ac ES,ac ER,FR,BF⟩
 case round=>
  clear FR BF ES ER;obtain⟨acc,rest,rfl,hst,hrs,H1,B1⟩:=hrel;have ST:=ae hst;clear hst;by_cases hr0:rest.size=0
  case pos=>
   have er:rest.toList.isEmpty=true:=by rw[List.isEmpty_iff];exact List.eq_nil_of_length_eq_zero (by rw[ap];exact hr0)
   have D:=ae (eN (ac H1) (Nat.le_of_lt (ac H1).lt));have F:=ae (show dx s (.returned (.tuple #[.string ⟨acc.toArray⟩,.bool true]))from .inl ⟨acc,by rw[ac ST,List.isEmpty_iff.1 er,iM];rfl,rfl⟩);clear hr0;go_wp2_with fail;refine(ac D).mono ?_;rintro e w2 ⟨rfl,b2⟩;have B2:=ae (show Below B w w2 from(ac B1).trans b2);clear b2 D;go_wp2_with fail;go_ret2;exact⟨ac F,by rw[ac HB];exact ac B2⟩
  case neg=>
   have hr1:0<rest.size:=om_;have er:rest.toList.isEmpty=false:=by rw[bO rest hr1];rfl
   have M:=ae (meant_any rest hr1 wr);go_wp2_with fail;refine(ac M).mono ?_;rintro e w2 ⟨⟨c,n,hm,rfl⟩,b2⟩;have H2:=ae ((ac H1).below b2);have B2:=ae (show Below B w w2 from(ac B1).trans (b2.mono (Nat.le_of_lt (ac H1).lt)));have HM:=ae hm;clear b2 M hm H1 B1;by_cases hn:n=0
   case pos=>
    subst hn;have F:=ae (show dx s (.returned (.tuple #[.string ⟨#[]⟩,.bool false]))from .inr ⟨fun l e=>by
     rw[ac ST]at e;exact Txt.stuck (acc:=acc) (fun z=>by rw[z]at er;cases er) (Txt.meant1_none (by rw[ac HM])) l e,rfl⟩)
    go_wp2_with fail;go_ret2;exact⟨ac F,by rw[ac HB];exact ac B2⟩
   case neg=>
    have MS:=ae (Txt.meant1_some (l:=rest.toList) (by rw[ac HM];exact hn));rw[ac HM]at MS;have LA:=ae (show acc.length≤s.size by
     have h1:=congrArg List.length (ac ST);have h2:=(Txt.showR_len acc).1;rw[ig,gZ,ap]at h1;omega)
    have hnr:n≤rest.size:=by have:=(ac MS).1;rw[ap]at this;exact this
    have hnz:(n:Int)≤(rest.size:Int):=om_;have D:=ae (bj c (ac H2) (by have:=ac LA;omega) (Nat.le_of_lt (ac H2).lt));have q0:(n==0)=false:=by simpa using hn
    go_wp2_with fail;refine(ac D).mono ?_;rintro e w3 ⟨rfl,h3,b3⟩;have H3:=ae h3;have B3:=ae (show Below B w w3 from(ac B2).trans b3);clear h3 b3 D;have EX:=ae (show(rest.extract n rest.size).toList=rest.toList.drop n from dJ rest n);go_wp2_with fail;go_roundw
    case rel=>exact⟨acc++[c],_,rfl,by rw[ac EX,ac ST,Txt.showR_append,Txt.showR_one,iF,←(ac MS).2.2],by rw[←ap,ac EX,iK,ap];omega,H3,B3⟩
    case measure=>show(rest.extract n rest.size).size<rest.size;rw[←ap,ac EX,iK,ap];omega
end
section
open Go.RowKit
theorem aY (l:List UInt8):(⟨l.toArray⟩:ByteArray).toList=l:=ByteArray.toList_mk l
theorem aC (l:List UInt8):(⟨l.toArray⟩:ByteArray).size=l.length:=by rw[←ap,aY]
theorem say_any {B b:Nat}{l:List UInt8}(x:ByteArray)(ws:List ByteArray)(bk o c:Nat){w:World}(h:Wr B b l w)(hBw:B≤w.heap.size)(hx:1≤x.size)(hl:l.length≤1000000000)
 (hcells:∀(j:Nat) y,(x::ws)[j]? =some y→w.cell? ⟨bk,o+j,none⟩=some (.string y)) (hbk:bk<w.heap.size) (hn:ws.length≤100) (hcap:(x::ws).length≤c)
 (hlen:(Txt.line ((x::ws).map (·.toList))).length≤1000000000):
 Calls Tryz.prog 124 #[.pointer (some ⟨b,0,none⟩),.slice (some ⟨bk,o,none⟩) (x::ws).length c] w fun e w'=>e=.returned (.tuple #[])∧Wr B b (l++Txt.line ((x::ws).map (·.toList))) w'∧Below B w w':=by
 obtain⟨J,hJ⟩:∃J:List UInt8,J=Lib.join ((x::ws).map (·.data.toList)) [32]:=⟨_,rfl⟩;have EJ:=ae (show Txt.line ((x::ws).map (·.toList))=J++[10]by
  rw[hJ,show(x::ws).map (·.data.toList)=(x::ws).map (·.toList)from List.map_congr_left fun y _=>(ByteArray.toList_eq y).symm,List.map_cons];exact(Txt.join_line _ _).symm)
 have J1:=ae (show 1≤J.length by
  rw[hJ,List.map_cons,Lib.join_cons,gZ];have:x.data.toList.length=x.size:=rfl;omega)
 have JL:=ae (show J.length≤1000000000 by have:=ac EJ;rw[this,gZ]at hlen;omega);have D:=ae (show Calls Tryz.prog 178 #[.slice (some ⟨bk,o,none⟩) (x::ws).length c,.string ⟨#[32]⟩] w.drew fun e w'=>e=.returned (.string ⟨J.toArray⟩)∧Below w.heap.size w w' from by
  refine(join_any bk o c (x::ws) ⟨#[32]⟩ w.drew hcells hbk (by rw[ig];omega) hcap (by show(Lib.join ((x::ws).map (·.data.toList)) [32]).length≤_;rw[←hJ];have:=ac JL;omega)).mono fun e w' ⟨he,hb⟩=>⟨?_,(gX _ w).drew.trans hb⟩;rw[he,hJ])
 have W1:=ae (fun V (hb:Below w.heap.size w V)=>fK ⟨J.toArray⟩ (h.below hb) (by rw[aC];exact ac J1) (by rw[aC];have:=ac JL;omega) (h_ hBw hb.size));have SZ:=ae hBw;have W2:=ae (fun V (hv:Wr B b (l++(⟨J.toArray⟩:ByteArray).toList) V)(hb:B≤V.heap.size)=>bj 10 hv (by rw[gZ,aY];have:=ac JL;omega) hb);have b0:Below w.heap.size w w.drew:=(gX _ w).drew;rw[ac EJ];have BW:=ae hBw;clear h hBw hx hl hcells hbk hn hcap hlen hJ J1 JL EJ;generalize(x::ws).length=n at D⊢;go_enter Tryz.func124,Tryz.ntmps124;go_upto_region 0 with fail
 refine aA (S:=fun V=>Below w.heap.size w V) 5 kr_ b0 (fun hS=>?_);refine frQ 0 b 0 rfl b0 ?_;refine frQ 1 b 0 rfl b0 ?_;refine fkQ 2 b 0 rfl b0 ?_;refine frP 3 (.slice (some ⟨bk,o,none⟩) n c) rfl b0 ?_;refine fkO 4 rfl (fun K hK=>?_);go_simp;refine(ac D).mono ?_;rintro e w1 ⟨rfl,b1⟩;go_wp2_with fail;have hS1:=b1;refine hK.out _ _ (fun _=>hS1) ?_;clear hK K;try simp only[Zsm]
 refine fkL rfl (fun K hK=>?_);go_simp;refine(ac W1 _ hS1).mono ?_;rintro e w2 ⟨rfl,h2,b2⟩;have H2:=ae h2;have B2:=ae (show Below B w w2 from(hS1.mono (ac BW)).trans b2);clear h2 b2 hS1;go_wp2_with fail;refine hK.out _ _ ?_;clear hK K;try simp only[Zsm]
 refine fkD ?_;clear hS b0;go_wp2_with fail;refine(ac W2 _ (ac H2) (h_ (ac SZ) (ac B2).size)).mono ?_;rintro e w3 ⟨rfl,h3,b3⟩;have H3:=ae h3;have B3:=ae (show Below B w w3 from(ac B2).trans b3);clear h3 b3;go_wp2_with fail;go_end0;exact⟨rfl,by have:=ac H3;rw[aY,iF]at this;exact this,ac B3⟩
def I64 (z:Int):Prop:= -9223372036854775808≤z∧z≤9223372036854775807
theorem I64.nat {n:Nat}(h:n≤1000):I64 (n:Int):=⟨om_,om_⟩
theorem au {z:Int}(h:I64 z):(Lib.itoa z).length≤21:=Lib.itoa_length_le z h.1 h.2
theorem aM {B:Nat}{w W:World}(h:Below B w W){g q:Nat}(hg:g<B){v:Value}(hc:w.cell? ⟨g,q,none⟩=some v):W.cell? ⟨g,q,none⟩=some v:=by
 rw[h.cell (p:=⟨g,q,none⟩) hg];exact hc
theorem cJ {w V:World}(hb:Below w.heap.size w V)(ht:Tab w){z:Int}(hz:I64 z):
 Calls Tryz.prog 69 #[.int .i64 z] V fun e w'=>e=.returned (.string ⟨(Lib.itoa z).toArray⟩)∧Below w.heap.size w w':=
 (dC z hz.1 hz.2 V (bu ht (hb.block 4 (fj ht)))).mono fun e w' ⟨he,h⟩=>⟨he,hb.trans (h.mono hb.size)⟩
theorem row_strs (W:World)(ws:List ByteArray)(T:TypeId):∀(j:Nat) y,ws[j]? =some y→(W.alloc (.cells (ws.map .string).toArray T)).cell? ⟨W.heap.size,0+j,none⟩=some (.string y):=fun j y hy=>by
 rw[Lib.cell_of_heap (iV W _),hY];simp[hy]
theorem ld_i {o:Oper}{ρ:Operand→Value}(x:Operand)(ho:o.op=.load 3 x){g q:Nat}(hx:ρ x=.pointer (some ⟨g,q,none⟩)){v:Int}(w:World)(hc:w.cell? ⟨g,q,none⟩=some (.int .i64 v)):(execOp ρ o).run Tryz.prog w=.ok (.value (.int .i64 v)) w:=by
 unfold execOp;rw[ho];go_simp
theorem ld_s {o:Oper}{ρ:Operand→Value}(x:Operand)(ho:o.op=.load 9 x){g q:Nat}(hx:ρ x=.pointer (some ⟨g,q,none⟩)){v:ByteArray}(w:World)(hc:w.cell? ⟨g,q,none⟩=some (.string v)):(execOp ρ o).run Tryz.prog w=.ok (.value (.string v)) w:=by
 unfold execOp;rw[ho];go_simp
abbrev mkb (l:List UInt8):ByteArray:=⟨l.toArray⟩
theorem say4 {B b:Nat}{l:List UInt8}(x a c d:ByteArray){W:World}(h:Wr B b l W)(hBw:B≤W.heap.size)(hx:1≤x.size)(hl:l.length≤1000000000)(hlen:x.size+a.size+c.size+d.size≤900000000):
 Calls Tryz.prog 124 #[.pointer (some ⟨b,0,none⟩),.slice (some ⟨W.heap.size,0,none⟩) 4 4] (W.alloc (.cells #[.string x,.string a,.string c,.string d] 9)) fun e w'=>e=.returned (.tuple #[])∧Wr B b (l++Txt.line [x.toList,a.toList,c.toList,d.toList]) w'∧Below B W w':=by
 have hb:Below W.heap.size W (W.alloc (.cells #[.string x,.string a,.string c,.string d] 9)):=(gX _ W).alloc (gY _) _;refine(say_any x [a,c,d] W.heap.size 0 4 (h.below hb) (h_ hBw hb.size) hx hl (row_strs W [x,a,c,d] 9) sp_ sp_ sp_ (by simp only[List.map_cons,List.map_nil,Txt.line,Txt.tailW,gZ,ig,iN,ap];omega)).mono fun e w' ⟨he,hw,hb2⟩=>⟨he,hw,(hb.mono hBw).trans hb2⟩
theorem say6 {B b:Nat}{l:List UInt8}(x a c d f g:ByteArray){W:World}(h:Wr B b l W)(hBw:B≤W.heap.size)(hx:1≤x.size)(hl:l.length≤1000000000)(hlen:x.size+a.size+c.size+d.size+f.size+g.size≤900000000):
 Calls Tryz.prog 124 #[.pointer (some ⟨b,0,none⟩),.slice (some ⟨W.heap.size,0,none⟩) 6 6] (W.alloc (.cells #[.string x,.string a,.string c,.string d,.string f,.string g] 9)) fun e w'=>e=.returned (.tuple #[])∧Wr B b (l++Txt.line [x.toList,a.toList,c.toList,d.toList,f.toList,g.toList]) w'∧Below B W w':=by
 have hb:Below W.heap.size W (W.alloc (.cells #[.string x,.string a,.string c,.string d,.string f,.string g] 9)):=(gX _ W).alloc (gY _) _;refine(say_any x [a,c,d,f,g] W.heap.size 0 6 (h.below hb) (h_ hBw hb.size) hx hl (row_strs W [x,a,c,d,f,g] 9) sp_ sp_ sp_ (by simp only[List.map_cons,List.map_nil,Txt.line,Txt.tailW,gZ,ig,iN,ap];omega)).mono fun e w' ⟨he,hw,hb2⟩=>⟨he,hw,(hb.mono hBw).trans hb2⟩
theorem data_any {B b:Nat}{l:List UInt8}(x g q:Nat)(of:Int)(tx:ByteArray){w:World}(h:Wr B b l w)(ht:Tab w)(hBw:B≤w.heap.size)(hx:x≤1000)(ho:I64 of)(htx:tx.size≤100000)(hg:g<B)
 (c0:w.cell? ⟨g,q,none⟩=some (.int .i64 of)) (c1:w.cell? ⟨g,q+1,none⟩=some (.string tx)) (hl:l.length≤1000000000):
 Calls Tryz.prog 91 #[.pointer (some ⟨b,0,none⟩),.int .i64 (x:Int),.pointer (some ⟨g,q,none⟩)] w fun e w'=>e=.returned (.tuple #[])∧Wr B b (l++Txt.line [Txt.bData,Lib.itoa (x:Int),Lib.itoa of,Txt.shows tx.toList]) w'∧Below B w w':=by
 have TB:=ae ht;have SZ:=ae hBw;have WB:=ae h;have b0:Below w.heap.size w w.drew:=(gX _ w).drew;have bB:Below B w w.drew:=(gX _ w).drew;have I1:=ae (cJ (V:=w.drew) b0 ht (I64.nat hx));have I2:=ae (fun V (hb:Below w.heap.size w V)=>cJ hb ht ho);have I3:=ae (fun(V:World)(hb:Below w.heap.size w V)=>(Show_any tx om_ V).mono fun e w' ⟨he,h⟩=>(show e=Ending.returned (.string ⟨(Txt.shows tx.toList).toArray⟩)∧Below w.heap.size w w' from⟨he,hb.trans (h.mono hb.size)⟩));have I4:=ae (fun(V:World)(hb:Below w.heap.size w V)=>say4 (⟨#[100,97,116,97]⟩:ByteArray) (mkb (Lib.itoa (x:Int))) (mkb (Lib.itoa of)) (mkb (Txt.shows tx.toList)) (h.below hb) (h_ hBw hb.size) dc_ hl (by
  have e1:=au (I64.nat hx);have e2:=au ho;have e3:=(Txt.showR_len tx.toList).2;rw[aC (Lib.itoa (x:Int)),aC (Lib.itoa of),aC (Txt.shows tx.toList),show(⟨#[100,97,116,97]⟩:ByteArray).size=4 from rfl,show(Txt.shows tx.toList).length=(Txt.showR tx.toList).length+1 from rfl];rw[ap]at e3;omega))
 have EL:=ae (show Txt.line [(⟨#[100,97,116,97]⟩:ByteArray).toList,(mkb (Lib.itoa (x:Int))).toList,(mkb (Lib.itoa of)).toList,(mkb (Txt.shows tx.toList)).toList]=Txt.line [Txt.bData,Lib.itoa (x:Int),Lib.itoa of,Txt.shows tx.toList]by
  rw[aY (Lib.itoa (x:Int)),aY (Lib.itoa of),aY (Txt.shows tx.toList),show(⟨#[100,97,116,97]⟩:ByteArray).toList=Txt.bData from aY [100,97,116,97]])
 rw[←ac EL];clear EL hl ht hBw h;generalize Lib.itoa (x:Int)=X at I1 I4⊢;generalize(x:Int)=xz at I1⊢;generalize Lib.itoa of=O at I2 I4⊢;generalize Txt.shows tx.toList=S at I3 I4⊢;go_enter Tryz.func91,Tryz.ntmps91;go_upto_region 0 with fail
 refine iU (S:=fun V=>Below B w V) kr_ bB (fun hS=>?_);refine tkQ 0 b 0 rfl bB ?_;refine tkP 1 (.int .i64 xz) rfl bB ?_;refine tkQ 3 g q rfl bB ?_;refine tkQ 4 g q rfl bB ?_;refine tkQ 5 g q rfl bB ?_;refine tkH 6 (.int .i64 of) rfl (fun W h=>ld_i (.tmp 11) kr_ kr_ W (aM h hg c0)) bB ?_;refine tkQ 8 g q rfl bB ?_;refine tkQ 9 g q rfl bB ?_;refine tkP 10 (.pointer (some ⟨g,q+1,none⟩)) rfl bB ?_;refine tkH 11 (.string tx) rfl (fun W h=>ld_s (.tmp 16) kr_ kr_ W (aM h hg c1)) bB ?_;refine tkO 2 rfl (fun K hK=>?_);go_simp;refine(ac I1).mono ?_;rintro e w1 ⟨rfl,b1⟩;go_wp2_with fail;refine hK.out _ _ (b1.mono (ac SZ)) (fun _=>?_);clear hK K;try simp only[Zsm]
 refine tkO 7 rfl (fun K hK=>?_);go_simp;refine(ac I2 _ b1).mono ?_;rintro e w2 ⟨rfl,b2⟩;clear b1;go_wp2_with fail;refine hK.out _ _ (b2.mono (ac SZ)) (fun _=>?_);clear hK K;try simp only[Zsm]
 refine tkO 12 rfl (fun K hK=>?_);go_simp;refine(ac I3 _ b2).mono ?_;rintro e w3 ⟨rfl,b3⟩;clear b2;go_wp2_with fail;refine hK.out _ _ (b3.mono (ac SZ)) (fun _=>?_);clear hK K;try simp only[Zsm]
 refine tkO 13 rfl (fun K hK=>?_);go_simp;refine hK.out _ _ ((b3.alloc b3.size (.cells #[.string ⟨#[100,97,116,97]⟩,.string ⟨X.toArray⟩,.string ⟨O.toArray⟩,.string ⟨S.toArray⟩] 9)).mono (ac SZ)) (fun _=>?_);clear hK K;try simp only[Zsm]
 refine tkO 14 rfl (fun K hK=>?_);go_simp;refine(ac I4 _ b3).mono ?_;rintro e w5 ⟨rfl,h5,b5⟩;have H5:=ae h5;have B5:=ae (show Below B w w5 from(b3.mono (ac SZ)).trans b5);clear h5 b5 b3;go_wp2_with fail;refine hK.out _ _ (ac B5) (fun _=>?_);clear hK K;try simp only[Zsm]
 refine tkD ?_;clear hS b0 bB;go_wp2_with fail;go_end0;exact⟨rfl,ac H5,ac B5⟩
theorem entry_any {B b:Nat}{l:List UInt8}(d s g q:Nat)(nm:ByteArray)(ino est:Int){w:World}(h:Wr B b l w)(ht:Tab w)(hBw:B≤w.heap.size)(hd:d≤1000)(hs:s≤1000)(hi:I64 ino)(he:I64 est)(hnm:nm.size≤100000)(hg:g<B)
 (c0:w.cell? ⟨g,q,none⟩=some (.string nm)) (c1:w.cell? ⟨g,q+1,none⟩=some (.int .i64 ino)) (c2:w.cell? ⟨g,q+2,none⟩=some (.int .i64 est)) (hl:l.length≤1000000000):
 Calls Tryz.prog 90 #[.pointer (some ⟨b,0,none⟩),.int .i64 (d:Int),.int .i64 (s:Int),.pointer (some ⟨g,q,none⟩)] w fun e w'=>e=.returned (.tuple #[])∧Wr B b (l++Txt.line [Txt.bEntry,Lib.itoa (d:Int),Lib.itoa (s:Int),nm.toList,Lib.itoa ino,Lib.itoa est]) w'∧Below B w w':=by
 have TB:=ae ht;have SZ:=ae hBw;have WB:=ae h;have b0:Below w.heap.size w w.drew:=(gX _ w).drew;have bB:Below B w w.drew:=(gX _ w).drew;have I1:=ae (cJ (V:=w.drew) b0 ht (I64.nat hd));have I2:=ae (fun V (hb:Below w.heap.size w V)=>cJ hb ht (I64.nat hs));have I3:=ae (fun V (hb:Below w.heap.size w V)=>cJ hb ht hi);have I4:=ae (fun V (hb:Below w.heap.size w V)=>cJ hb ht he);have I5:=ae (fun(V:World)(hb:Below w.heap.size w V)=>say6 (⟨#[101,110,116,114,121]⟩:ByteArray) (mkb (Lib.itoa (d:Int))) (mkb (Lib.itoa (s:Int))) nm (mkb (Lib.itoa ino)) (mkb (Lib.itoa est)) (h.below hb) (h_ hBw hb.size) dc_ hl (by
  have e1:=au (I64.nat hd);have e2:=au (I64.nat hs);have e3:=au hi;have e4:=au he;rw[aC (Lib.itoa (d:Int)),aC (Lib.itoa (s:Int)),aC (Lib.itoa ino),aC (Lib.itoa est),show(⟨#[101,110,116,114,121]⟩:ByteArray).size=5 from rfl];omega))
 have EL:=ae (show Txt.line [(⟨#[101,110,116,114,121]⟩:ByteArray).toList,(mkb (Lib.itoa (d:Int))).toList,(mkb (Lib.itoa (s:Int))).toList,nm.toList,(mkb (Lib.itoa ino)).toList,(mkb (Lib.itoa est)).toList]=Txt.line [Txt.bEntry,Lib.itoa (d:Int),Lib.itoa (s:Int),nm.toList,Lib.itoa ino,Lib.itoa est]by
  rw[aY (Lib.itoa (d:Int)),aY (Lib.itoa (s:Int)),aY (Lib.itoa ino),aY (Lib.itoa est),show(⟨#[101,110,116,114,121]⟩:ByteArray).toList=Txt.bEntry from aY [101,110,116,114,121]])
 rw[←ac EL];clear EL hl ht hBw h;generalize Lib.itoa (d:Int)=X at I1 I5⊢;generalize(d:Int)=dz at I1⊢;generalize Lib.itoa (s:Int)=Y at I2 I5⊢;generalize(s:Int)=sz at I2⊢;generalize Lib.itoa ino=O at I3 I5⊢;generalize Lib.itoa est=E at I4 I5⊢;go_enter Tryz.func90,Tryz.ntmps90;go_upto_region 0 with fail
 refine iU (S:=fun V=>Below B w V) kr_ bB (fun hS=>?_);refine tkQ 0 b 0 rfl bB ?_;refine tkP 1 (.int .i64 dz) rfl bB ?_;refine tkP 3 (.int .i64 sz) rfl bB ?_;refine tkQ 5 g q rfl bB ?_;refine tkQ 6 g q rfl bB ?_;refine tkQ 7 g q rfl bB ?_;refine tkH 8 (.string nm) rfl (fun W h=>ld_s (.tmp 15) kr_ kr_ W (aM h hg c0)) bB ?_;refine tkQ 9 g q rfl bB ?_;refine tkQ 10 g q rfl bB ?_;refine tkP 11 (.pointer (some ⟨g,q+1,none⟩)) rfl bB ?_;refine tkH 12 (.int .i64 ino) rfl (fun W h=>ld_i (.tmp 19) kr_ kr_ W (aM h hg c1)) bB ?_;refine tkQ 14 g q rfl bB ?_;refine tkQ 15 g q rfl bB ?_;refine tkP 16 (.pointer (some ⟨g,q+2,none⟩)) rfl bB ?_;refine tkH 17 (.int .i64 est) rfl (fun W h=>ld_i (.tmp 24) kr_ kr_ W (aM h hg c2)) bB ?_;refine tkO 2 rfl (fun K hK=>?_);go_simp;refine(ac I1).mono ?_;rintro e w1 ⟨rfl,b1⟩;go_wp2_with fail;refine hK.out _ _ (b1.mono (ac SZ)) (fun _=>?_);clear hK K;try simp only[Zsm]
 refine tkO 4 rfl (fun K hK=>?_);go_simp;refine(ac I2 _ b1).mono ?_;rintro e w2 ⟨rfl,b2⟩;clear b1;go_wp2_with fail;refine hK.out _ _ (b2.mono (ac SZ)) (fun _=>?_);clear hK K;try simp only[Zsm]
 refine tkO 13 rfl (fun K hK=>?_);go_simp;refine(ac I3 _ b2).mono ?_;rintro e w4 ⟨rfl,b4⟩;clear b2;go_wp2_with fail;refine hK.out _ _ (b4.mono (ac SZ)) (fun _=>?_);clear hK K;try simp only[Zsm]
 refine tkO 18 rfl (fun K hK=>?_);go_simp;refine(ac I4 _ b4).mono ?_;rintro e w3 ⟨rfl,b3⟩;clear b4;go_wp2_with fail;refine hK.out _ _ (b3.mono (ac SZ)) (fun _=>?_);clear hK K;try simp only[Zsm]
 refine tkO 19 rfl (fun K hK=>?_);go_simp;refine hK.out _ _ ((b3.alloc b3.size (.cells #[.string ⟨#[101,110,116,114,121]⟩,.string ⟨X.toArray⟩,.string ⟨Y.toArray⟩,.string nm,.string ⟨O.toArray⟩,.string ⟨E.toArray⟩] 9)).mono (ac SZ)) (fun _=>?_);clear hK K;try simp only[Zsm]
 refine tkO 20 rfl (fun K hK=>?_);go_simp;refine(ac I5 _ b3).mono ?_;rintro e w5 ⟨rfl,h5,b5⟩;have H5:=ae h5;have B5:=ae (show Below B w w5 from(b3.mono (ac SZ)).trans b5);clear h5 b5 b3;go_wp2_with fail;refine hK.out _ _ (ac B5) (fun _=>?_);clear hK K;try simp only[Zsm]
 refine tkD ?_;clear hS b0 bB;go_wp2_with fail;go_end0;exact⟨rfl,ac H5,ac B5⟩
theorem str_info8:∃i,Tryz.prog.info? 9=some i∧i.zero=some (.string ⟨#[]⟩)∧i.size=1∧i.bytes=16:=by
 have h:(Tryz.prog.info? 9).map (fun i=>(i.zero,i.size,i.bytes))=some (some (.string ⟨#[]⟩),1,16):=kr_;cases hq:Tryz.prog.info? 9 with
 |none=>rw[hq]at h;cases h
 |some i=>
  rw[hq]at h;simp only[Option.map_some,Option.some.injEq,Prod.mk.injEq]at h;exact⟨i,rfl,h.1,h.2.1,h.2.2⟩
def strv (l:List ByteArray):List Value:=l.map .string
theorem own_fresh {w W:World}(hb:Below w.heap.size w W)(ws:List ByteArray)(hl:ws.length≤1000):(W.alloc (.cells (strv ws).toArray 9)).ownsRow w.heap.size 9 1 (.slice (some ⟨W.heap.size,0,none⟩) ws.length ws.length) ws.length (strv ws):=
 ⟨by simp[strv],.inr ⟨W.heap.size,ws.length,(strv ws).toArray,rfl,hb.size,iV W _,gY _,by unfold maxLen;omega,by simp[strv],by rw[Nat.mul_one];exact List.take_of_length_le (by simp[strv])⟩⟩
theorem addr_add (g j:Nat):(⟨g,0,none⟩:Addr).add j=⟨g,j,none⟩:=by
 unfold Addr.add;split
 ·rename_i h;subst h;rfl
 ·simp
theorem own_below {B:Nat}{w w':World}{e:TypeId}{v:Value}{n:Nat}{xs:List Value}(h:w.ownsRow B e 1 v n xs)(hb:Below w.heap.size w w'):w'.ownsRow B e 1 v n xs:=by
 rcases h.2 with z|⟨g,cap,cur,e1,e2,e3,e4⟩
 ·exact⟨h.1,.inl z⟩
 ·exact⟨h.1,.inr ⟨g,cap,cur,e1,e2,by rw[hb.block g (gW.1 e3).1];exact e3,e4⟩⟩
theorem tInode_any {B b:Nat}{l:List UInt8}(n g q:Nat)(st lk p0 p1:Int){w:World}(h:Wr B b l w)(ht:Tab w)(hBw:B≤w.heap.size)(hn:n≤1000)(h1:I64 st)(h2:I64 lk)(h3:I64 p0)(h4:I64 p1)(hg:g<B)
 (c1:w.cell? ⟨g,q+1,none⟩=some (.int .i64 st)) (c2:w.cell? ⟨g,q+2,none⟩=some (.int .i64 lk)) (c3:w.cell? ⟨g,q+3,none⟩=some (.int .i64 p0)) (c4:w.cell? ⟨g,q+4,none⟩=some (.int .i64 p1)) (hl:l.length≤1000000000):
 Calls Tryz.prog 89 #[.pointer (some ⟨b,0,none⟩),.int .i64 (n:Int),.pointer (some ⟨g,q,none⟩)] w fun e w'=>e=.returned (.tuple #[])∧Wr B b (l++Txt.line [Txt.bInode,Lib.itoa (n:Int),Lib.itoa st,Lib.itoa lk,Lib.itoa p0,Lib.itoa p1]) w'∧Below B w w':=by
 have TB:=ae ht;have SZ:=ae hBw;have WB:=ae h;have b0:Below w.heap.size w w.drew:=(gX _ w).drew;have bB:Below B w w.drew:=(gX _ w).drew;have I1:=ae (cJ (V:=w.drew) b0 ht (I64.nat hn));have I2:=ae (fun V (hb:Below w.heap.size w V)=>cJ hb ht h1);have I3:=ae (fun V (hb:Below w.heap.size w V)=>cJ hb ht h2);have IP:=ae (fun V (hb:Below w.heap.size w V)=>And.intro (dC p0 h3.1 h3.2 V (bu ht (hb.block 4 (fj ht)))) (dC p1 h4.1 h4.2 V (bu ht (hb.block 4 (fj ht)))));obtain⟨X,hX⟩:∃X,X=Lib.itoa (n:Int):=⟨_,rfl⟩;obtain⟨O,hO⟩:∃X,X=Lib.itoa st:=⟨_,rfl⟩;obtain⟨E,hE⟩:∃X,X=Lib.itoa lk:=⟨_,rfl⟩;obtain⟨P,hP⟩:∃X,X=Lib.itoa p0:=⟨_,rfl⟩;obtain⟨Q,hQ⟩:∃X,X=Lib.itoa p1:=⟨_,rfl⟩;have LN:=ae (show X.length≤21∧O.length≤21∧E.length≤21∧P.length≤21∧Q.length≤21 from⟨by rw[hX];exact au (I64.nat hn),by rw[hO];exact au h1,by rw[hE];exact au h2,by rw[hP];exact au h3,by rw[hQ];exact au h4⟩);rw[←hX]at I1;rw[←hO]at I2;rw[←hE]at I3;rw[←hP,←hQ]at IP;rw[←hX,←hO,←hE,←hP,←hQ];have CC:=ae (show ∀V,Below B w V→V.cell? ⟨g,q+3,none⟩=some (.int .i64 p0)∧V.cell? ⟨g,q+4,none⟩=some (.int .i64 p1)from fun V hb=>⟨aM hb hg c3,aM hb hg c4⟩);have SAY:=ae (fun(V:World)(hb:Below w.heap.size w V)(gk cp:Nat)(ho:V.ownsRow w.heap.size 9 1 (.slice (some ⟨gk,0,none⟩) 6 cp) 6 (strv [⟨#[105,110,111,100,101]⟩,mkb X,mkb O,mkb E,mkb P,mkb Q]))=>
  say_any (⟨#[105,110,111,100,101]⟩:ByteArray) [mkb X,mkb O,mkb E,mkb P,mkb Q] gk 0 cp (h.below hb) (h_ hBw hb.size) dc_ hl
   (fun j y hy=>by rw[hY];have:=ho.cells (g:=gk) rfl j (.string y) (by unfold strv;rw[List.getElem?_map,hy];rfl);rw[addr_add]at this;exact this) (ho.lt gk rfl).2 sp_
   (by
    rcases ho.2 with⟨z,_⟩|⟨_,_,_,z,_,_,z2,_⟩
    ·cases z
    ·injection z with _ _ z3;rw[z3];exact z2)
   (by have:=ac LN;simp only[List.map_cons,List.map_nil,Txt.line,Txt.tailW,gZ,ig,iN,ap,aC X,aC O,aC E,aC P,aC Q,show(⟨#[105,110,111,100,101]⟩:ByteArray).size=5 from rfl];omega))
 have EL:=ae (show Txt.line (([⟨#[105,110,111,100,101]⟩,mkb X,mkb O,mkb E,mkb P,mkb Q]:List ByteArray).map (·.toList))=Txt.line [Txt.bInode,X,O,E,P,Q]by
  simp only[List.map_cons,List.map_nil];rw[aY X,aY O,aY E,aY P,aY Q,show(⟨#[105,110,111,100,101]⟩:ByteArray).toList=Txt.bInode from aY [105,110,111,100,101]])
 rw[←ac EL];clear EL hl ht hBw h hX hO hE hP hQ;generalize(n:Int)=nz at I1⊢;go_enter Tryz.func89,Tryz.ntmps89;go_upto_region 0 with fail
 refine iU (S:=fun V=>Below B w V) kr_ bB (fun hS=>?_);refine tkP 0 (.int .i64 nz) rfl bB ?_;refine tkQ 2 g q rfl bB ?_;refine tkQ 3 g q rfl bB ?_;refine tkP 4 (.pointer (some ⟨g,q+1,none⟩)) rfl bB ?_;refine tkH 5 (.int .i64 st) rfl (fun W h=>ld_i (.tmp 13) kr_ kr_ W (aM h hg c1)) bB ?_;refine tkQ 7 g q rfl bB ?_;refine tkQ 8 g q rfl bB ?_;refine tkP 9 (.pointer (some ⟨g,q+2,none⟩)) rfl bB ?_;refine tkH 10 (.int .i64 lk) rfl (fun W h=>ld_i (.tmp 18) kr_ kr_ W (aM h hg c2)) bB ?_;refine tkO 1 rfl (fun K hK=>?_);go_simp;refine(ac I1).mono ?_;rintro e w1 ⟨rfl,b1⟩;go_wp2_with fail;refine hK.out _ _ (b1.mono (ac SZ)) (fun _=>?_);clear hK K;try simp only[Zsm]
 refine tkO 6 rfl (fun K hK=>?_);go_simp;refine(ac I2 _ b1).mono ?_;rintro e w2 ⟨rfl,b2⟩;clear b1;go_wp2_with fail;refine hK.out _ _ (b2.mono (ac SZ)) (fun _=>?_);clear hK K;try simp only[Zsm]
 refine tkO 11 rfl (fun K hK=>?_);go_simp;refine(ac I3 _ b2).mono ?_;rintro e w3 ⟨rfl,b3⟩;clear b2;go_wp2_with fail;refine hK.out _ _ (b3.mono (ac SZ)) (fun _=>?_);clear hK K;try simp only[Zsm]
 refine tkO 12 rfl (fun K hK=>?_);go_simp;refine hK.out _ _ ((b3.alloc b3.size (.cells #[.string ⟨#[105,110,111,100,101]⟩,.string ⟨X.toArray⟩,.string ⟨O.toArray⟩,.string ⟨E.toArray⟩] 9)).mono (ac SZ)) (fun _=>?_);clear hK K;try simp only[Zsm]
 refine tkP 13 (.slice (some ⟨w3.heap.size,0,none⟩) 4 4) rfl ((b3.alloc b3.size (.cells #[.string ⟨#[105,110,111,100,101]⟩,.string ⟨X.toArray⟩,.string ⟨O.toArray⟩,.string ⟨E.toArray⟩] 9)).mono (ac SZ)) ?_;refine tkD ?_;clear hS b0 bB;have OW:=ae (own_fresh b3 [⟨#[105,110,111,100,101]⟩,mkb X,mkb O,mkb E] sp_);have BX:=ae (show Below w.heap.size w (w3.alloc (.cells #[.string ⟨#[105,110,111,100,101]⟩,.string ⟨X.toArray⟩,.string ⟨O.toArray⟩,.string ⟨E.toArray⟩] 9))from b3.alloc b3.size _);have OW:Hid ((w3.alloc (.cells #[.string ⟨#[105,110,111,100,101]⟩,.string ⟨X.toArray⟩,.string ⟨O.toArray⟩,.string ⟨E.toArray⟩] 9)).ownsRow w.heap.size 9 1 (.slice (some ⟨w3.heap.size,0,none⟩) 4 4) 4 (strv [⟨#[105,110,111,100,101]⟩,mkb X,mkb O,mkb E])):=OW;clear b3;generalize w3.alloc (.cells #[.string ⟨#[105,110,111,100,101]⟩,.string ⟨X.toArray⟩,.string ⟨O.toArray⟩,.string ⟨E.toArray⟩] 9)=X4 at OW BX⊢;generalize w3.heap.size=g4 at OW⊢;have c3':=(ac CC _ ((ac BX).mono (ac SZ))).1;have c4':=(ac CC _ ((ac BX).mono (ac SZ))).2;go_wp2_with fail;obtain⟨i8,hi8,hz0,hz1,hz2⟩:=str_info8;go_loopw [6,26] (fun v i wr=>∃k:Nat,k≤2∧i=.int .i64 k∧Hid (Below w.heap.size w wr)∧Hid (wr.ownsRow w.heap.size 9 1 v (4+k) (strv ([⟨#[105,110,111,100,101]⟩,mkb X,mkb O,mkb E]++[mkb P,mkb Q].take k)))) (fun _ i _=>2-(intOf i).toNat)
 case atStart=>exact⟨0,hZ _,rfl,BX,OW⟩
 case round=>
  clear BX OW c3' c4';obtain⟨k,hk,rfl,BR,OR⟩:=hrel;generalize u6=v at OR⊢;rcases(show k=0∨k=1∨k=2 by omega)with rfl|rfl|rfl
  ·have IT:=ae (ac IP _ (ac BR)).1;have x0:(Instr.index 66 (.agg #[.int .i64 p0,.int .i64 p1]) (.int .i64 0)).run Tryz.prog wr=.ok (.int .i64 p0) wr:=kr_;go_wp2_with fail;refine(ac IT).mono ?_;rintro e w5 ⟨rfl,b5⟩;have O5:=own_below (ac OR) b5;have B5:=ae (show Below w.heap.size w w5 from(ac BR).trans (b5.mono (ac BR).size));clear b5 IT;go_wp2_with(at_builtin;refine wpList_append_own _ rfl _ _ 22 rfl w.heap.size 9 i8 (.string ⟨#[]⟩) 1 16 Tryz.underlying22 hi8 hz0 hz1 hz2 rfl dc_ _ _ _ rfl (O5.alloc _) ⟨w5.heap.size,0,none⟩ 1 1 [.string ⟨P.toArray⟩] rfl rfl ?c10 ?c20 ?c30 ?c40 ?c50 ?_)
   case c10=>
    intro j u hj;match j,hj with
    |0,hj=>simp at hj;subst hj;simp[Addr.add]
   case c20=>intro u hu;simp at hu;subst hu;rfl
   case c30=>unfold maxLen;omega
   case c40=>omega
   case c50=>have:=(ac B5).size;simp;omega
   intro v' w6 hown' hgrow _;have O6:=ae (show w6.ownsRow w.heap.size 9 1 v' (4+1) (strv ([⟨#[105,110,111,100,101]⟩,mkb X,mkb O,mkb E]++[mkb P,mkb Q].take 1))from hown');have B6:=ae (show Below w.heap.size w w6 from((ac B5).alloc (ac B5).size _).grown hgrow (by have:=(ac B5).size;simp;omega) (fun k hk=>(O5.lt k hk).1));clear hown' hgrow O5 B5;go_wp2_with fail;go_roundw
   case rel=>exact⟨1,om_,by first|rfl|go_num,B6,O6⟩
   case measure=>simp[intOf]
  ·have IT:=ae (ac IP _ (ac BR)).2;have x1:(Instr.index 66 (.agg #[.int .i64 p0,.int .i64 p1]) (.int .i64 1)).run Tryz.prog wr=.ok (.int .i64 p1) wr:=kr_;go_wp2_with fail;refine(ac IT).mono ?_;rintro e w5 ⟨rfl,b5⟩;have O5:=own_below (ac OR) b5;have B5:=ae (show Below w.heap.size w w5 from(ac BR).trans (b5.mono (ac BR).size));clear b5 IT;go_wp2_with(at_builtin;refine wpList_append_own _ rfl _ _ 22 rfl w.heap.size 9 i8 (.string ⟨#[]⟩) 1 16 Tryz.underlying22 hi8 hz0 hz1 hz2 rfl dc_ _ _ _ rfl (O5.alloc _) ⟨w5.heap.size,0,none⟩ 1 1 [.string ⟨Q.toArray⟩] rfl rfl ?c11 ?c21 ?c31 ?c41 ?c51 ?_)
   case c11=>
    intro j u hj;match j,hj with
    |0,hj=>simp at hj;subst hj;simp[Addr.add]
   case c21=>intro u hu;simp at hu;subst hu;rfl
   case c31=>unfold maxLen;omega
   case c41=>omega
   case c51=>have:=(ac B5).size;simp;omega
   intro v' w6 hown' hgrow _;have O6:=ae (show w6.ownsRow w.heap.size 9 1 v' (4+2) (strv ([⟨#[105,110,111,100,101]⟩,mkb X,mkb O,mkb E]++[mkb P,mkb Q].take 2))from hown');have B6:=ae (show Below w.heap.size w w6 from((ac B5).alloc (ac B5).size _).grown hgrow (by have:=(ac B5).size;simp;omega) (fun k hk=>(O5.lt k hk).1));clear hown' hgrow O5 B5;go_wp2_with fail;go_roundw
   case rel=>exact⟨2,om_,by first|rfl|go_num,B6,O6⟩
   case measure=>simp[intOf]
  ·obtain⟨gk,cp,rfl⟩:∃gk cp,v=.slice (some ⟨gk,0,none⟩) 6 cp:=by
    rcases(ac OR).2 with⟨_,z⟩|⟨gk,cp,_,z,_⟩
    ·omega
    ·exact⟨gk,cp,z⟩
   have SY:=ae (ac SAY _ (ac BR) gk cp (ac OR));clear OR SAY;go_wp2_with fail;refine(ac SY).mono ?_;rintro e w5 ⟨rfl,h5,b5⟩;have H5:=ae h5;have B5:=ae (show Below B w w5 from((ac BR).mono (ac SZ)).trans b5);clear h5 b5 SY;go_wp2_with fail;go_end0;exact⟨rfl,ac H5,ac B5⟩
end
end Go.Proofs.YtfpfpnhpbnnmfadGreatDoor
