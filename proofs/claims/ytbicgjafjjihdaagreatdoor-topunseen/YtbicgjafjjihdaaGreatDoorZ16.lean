/- Part. -/
import Derived.Maps.Keyed
import Derived.DeepKeys4
import Derived.Test.YtbicgjafjjihdaaGreatDoorZ7
set_option maxHeartbeats 16000000
set_option maxRecDepth 100000
namespace Go.Proofs.YtbicgjafjjihdaaGreatDoor
open Go.RowKit
section
open Go.Maps (Keyed)
open Go.ChangeMaps (setBlock)
variable {k t e:TypeId} {w w':World} {m ck i:Nat} {key:Value}
structure Mp (k:TypeId) (w:World) (m:Nat) (es:List MapEntry) (ck:Nat):Prop where
 at_:w.heap[m]?=some (.map es.toArray ck)
 keys:∀ e∈es,∃ l,keyOf Tryz.prog k e.key=some l
 nd:(es.map (·.key)).Nodup
 bn:(es.map (·.born)).Nodup
 lt:∀ e∈es,e.born<ck
theorem Mp.ltm {es:List MapEntry} (h:Mp k w m es ck):m<w.heap.size:=(Array.getElem?_eq_some_iff.1 h.at_).1
theorem Mp.later {es:List MapEntry} (h:Mp k w m es ck) (hb:Gq w w'):Mp k w' m es ck:={h with at_:=(hb.block m h.ltm).trans h.at_}
theorem Mp.grow {row:Option Nat} {es:List MapEntry} (h:Mp k w m es ck) (hg:w.grownBy w' row) (hne:some m≠row):Mp k w' m es ck:={h with at_:=(hg.block m h.ltm hne).trans h.at_}
theorem yO {α:Type} {l:List α} (h:l.Nodup) {j:Nat} {a:α} (hi:l[i]?=some a) (hj:l[j]?=some a):i=j:=by
 obtain⟨h1,h2⟩:=Gh.1 hi;obtain⟨h3,h4⟩:=Gh.1 hj;have hp:=List.pairwise_iff_getElem.1 h;rcases Nat.lt_trichotomy i j with hlt|heq|hgt
 ·exact absurd (h2.trans h4.symm) (hp i j h1 h3 hlt)
 ·exact heq
 ·exact absurd (h4.trans h2.symm) (hp j i h3 h1 hgt)
theorem Mp.find {k:TypeId} (K:Keyed Tryz.prog k) {w:World} {m:Nat} {es:List MapEntry} {ck:Nat} (h:Mp k w m es ck) {key:Value} {lx:Lit} (hk:keyOf Tryz.prog k key=some lx) {i:Nat} {e:MapEntry} (hi:es[i]?=some e) (he:e.key=key) (W:World) :
 (Instr.findKey k key es).run Tryz.prog W=.ok (some (i,e.val)) W:=by
 rcases K.find W hk es h.keys with ⟨_,h2⟩|⟨j,e',h1,h2,h3⟩
 ·exact absurd he (h2 e (Gp hi))
 ·have hij:i=j:=by
   have h4:(es.map (·.key))[i]?=some key:=by rw[List.getElem?_map,hi];simp[he]
   have h5:(es.map (·.key))[j]?=some key:=by rw[List.getElem?_map,h2];simp[h3]
   exact yO h.nd h4 h5
  subst hij;rw[hi] at h2;cases h2
  exact h1
theorem Mp.uF (K:Keyed Tryz.prog k) {es:List MapEntry} (h:Mp k w m es ck) {lx:Lit} (hk:keyOf Tryz.prog k key=some lx) (hn:∀ e∈es,e.key≠key) (W:World) :
 (Instr.findKey k key es).run Tryz.prog W=.ok none W:=by
 rcases K.find W hk es h.keys with ⟨h1,_⟩|⟨j,e',_,h2,h3⟩
 ·exact h1
 ·exact absurd h3 (hn e' (Gp h2))
theorem Mp.lookup {k:TypeId} (K:Keyed Tryz.prog k) {t e:TypeId} (ht:Tryz.prog.underlying t=some (.map k e)) {w:World} {m:Nat} {es:List MapEntry} {ck:Nat} (h:Mp k w m es ck) {key:Value} {lx:Lit} (hk:keyOf Tryz.prog k key=some lx) {i:Nat} {x:MapEntry} (hi:es[i]?=some x) (he:x.key=key) (c:Bool) :
 (Instr.lookup t (.map (some m)) key c).run Tryz.prog w=.ok (if c then .tuple #[x.val,.bool true] else x.val) w:=by
 simp[Instr.lookup,run_underlying ht,MapKept.run_getObj_map h.at_,K.check w _ hk,h.find K hk hi he w]
theorem Mp.yE (K:Keyed Tryz.prog k) (ht:Tryz.prog.underlying t=some (.map k e)) {es:List MapEntry} (h:Mp k w m es ck) {lx:Lit} (hk:keyOf Tryz.prog k key=some lx) (hn:∀ e∈es,e.key≠key) {z:Value} (hz:(zeroValue e).run Tryz.prog w=.ok z w) (c:Bool) :
 (Instr.lookup t (.map (some m)) key c).run Tryz.prog w=.ok (if c then .tuple #[z,.bool false] else z) w:=by
 simp[Instr.lookup,run_underlying ht,MapKept.run_getObj_map h.at_,K.check w _ hk,h.uF K hk hn w,hz]
theorem fM (h:m<w.heap.size) (o:Obj):(setBlock w m o).heap[m]?=some o:=by
 unfold setBlock;simp[h]
theorem fC (o:Obj):w.grownBy (setBlock w m o) (some m):=by
 refine⟨rfl,rfl,rfl,by unfold setBlock;simp,fun b hb hne=>?_⟩;unfold setBlock;rw[Array.getElem?_setIfInBounds];rw[if_neg (fun e=>hne (by rw[e]))]
def eT (es:List MapEntry) (key val:Value) (ck:Nat):List MapEntry:=es++[⟨key,val,ck⟩]
theorem Mp.push {es:List MapEntry} (h:Mp k w m es ck) {lx:Lit} (hk:keyOf Tryz.prog k key=some lx) (hn:∀ e∈es,e.key≠key) (val:Value) (hw:w'.heap[m]?=some (.map (eT es key val ck).toArray (ck+1))) :
 Mp k w' m (eT es key val ck) (ck+1):=by
 refine⟨hw,fun e he=>?_,?_,?_,fun e he=>?_⟩
 ·rcases List.mem_append.1 he with h1|h1
  ·exact h.keys e h1
  ·simp at h1
   exact⟨lx,by rw[h1];exact hk⟩
 ·unfold eT
  rw[List.map_append,List.nodup_append];refine⟨h.nd,by simp,fun a ha b hb=>?_⟩;simp at hb;obtain⟨e,he,rfl⟩:=List.mem_map.1 ha;rw[hb];exact hn e he
 ·unfold eT
  rw[List.map_append,List.nodup_append];refine⟨h.bn,by simp,fun a ha b hb=>?_⟩;simp at hb;obtain⟨e,he,rfl⟩:=List.mem_map.1 ha;have:=h.lt e he;omega
 ·rcases List.mem_append.1 he with h1|h1
  ·have:=h.lt e h1
   omega
  ·simp at h1
   rw[h1];show ck<ck+1
   omega
theorem Mp.qx (K:Keyed Tryz.prog k) (ht:Tryz.prog.underlying t=some (.map k e)) {es:List MapEntry} (h:Mp k w m es ck) {lx:Lit} (hk:keyOf Tryz.prog k key=some lx) (hn:∀ e∈es,e.key≠key) (v:Value) :
 (Instr.mapUpdate t (.map (some m)) key v).run Tryz.prog w=.ok () (setBlock w m (.map (eT es key v ck).toArray (ck+1))):=by
 have h4:es.toArray.push ⟨key,v,ck⟩=(eT es key v ck).toArray:=by unfold eT;simp
 simp only[Instr.mapUpdate,Sem.run_bind,run_underlying ht,MapKept.run_getObj_map h.at_,K.check w _ hk,h.uF K hk hn w,Result.andThen,h4,MapKept.run_setObj_map _ h.at_];rfl
theorem Mp.erase {es:List MapEntry} (h:Mp k w m es ck) (i:Nat) (hw:w'.heap[m]?=some (.map (es.eraseIdx i).toArray ck)):Mp k w' m (es.eraseIdx i) ck :=
 ⟨hw,fun e he=>h.keys e (List.mem_of_mem_eraseIdx he),h.nd.sublist ((List.eraseIdx_sublist es i).map _),h.bn.sublist ((List.eraseIdx_sublist es i).map _),fun e he=>h.lt e (List.mem_of_mem_eraseIdx he)⟩
theorem Mp.del (K:Keyed Tryz.prog k) {ty:TypeId} (ht:Tryz.prog.underlying t=some (.map k e)) {es:List MapEntry} (h:Mp k w m es ck) {lx:Lit} (hk:keyOf Tryz.prog k key=some lx) {x:MapEntry} (hi:es[i]?=some x) (he:x.key=key) :
 (Builtin.delete_ #[t,k] ty #[.map (some m),key]).run Tryz.prog w=.ok (.tuple #[]) (setBlock w m (.map (es.eraseIdx i).toArray ck)):=by
 simp[Builtin.delete_,run_underlying ht,MapKept.run_getObj_map h.at_,K.check w _ hk,h.find K hk hi he w,MapKept.run_setObj_map _ h.at_,setBlock]
end
end Go.Proofs.YtbicgjafjjihdaaGreatDoor
