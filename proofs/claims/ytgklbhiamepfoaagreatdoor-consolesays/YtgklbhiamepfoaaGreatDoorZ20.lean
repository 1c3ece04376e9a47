import Derived.DeepKeys4
import Derived.Test.YtgklbhiamepfoaaGreatDoorZ9
set_option maxHeartbeats 16000000
set_option maxRecDepth 100000
namespace Go.Proofs.YtgklbhiamepfoaaGreatDoor
open Go.Proofs.Tryz Mx
variable {Z:List MapEntry}{n g:Nat}{X:TypeId}{v:World}{W:Obj}{V:Option Nat}{U:MapEntry}
open Go.RowKit
section
open Go.Maps (Keyed)
open Go.ChangeMaps (setBlock)
variable {k e:TypeId}{w:World}{m ck:Nat}{key:Value}
structure Mp (k:TypeId) (w:World) (m:Nat) (es:List MapEntry) (ck:Nat):Prop where
 at_:w.heap[m]?=some (.map es.toArray ck)
 keys:∀e∈es,∃l,keyOf Tryz.prog k e.key=some l
 nd:(es.map (·.key)).Nodup
 bn:(es.map (·.born)).Nodup
 lt:∀e∈es,e.born<ck
theorem Mp.ltm(h:Mp k w m Z ck):m<w:=(co.1 h.at_).1
theorem Mp.later{w':World}(h:Mp k w m Z ck)(a:OS w w'):Mp k w' m Z ck:={h with at_:=(a.block m h.ltm).trans h.at_}
theorem Mp.grow(h:Mp k w m Z ck)(b:w.grownBy v V)(a:some m≠V):Mp k v m Z ck:={h with at_:=(b.block m h.ltm a).trans h.at_}
theorem Ej{α:Type}{l:List α}(p:l.Nodup){a:α}(o:l[g]?=a)(j:l[n]?=a):g=n:=by
 have⟨h1,h2⟩:=OI.1 o;have⟨c,d⟩:=OI.1 j;have b:=List.pairwise_iff_getElem.1 p;rcases Nat.lt_trichotomy g n with f|i|h
 ·exact absurd (h2.trans d.symm) (b g n h1 c f)
 ·exact i
 ·exact absurd (d.trans h2.symm) (b n g c h1 h)
theorem Mp.find{k:TypeId}(K:Keyed prog k){w:World}{m:Nat}{a:List MapEntry}{ck:Nat}(h:Mp k w m a ck){key:Value}{l:Lit}(g:keyOf prog k key=l){i:Nat}{e:MapEntry}(b:a[i]?=e)(c:e.key=key)(W:World):
 (Instr.findKey k key a).run prog W=.ok (some (i,e.val)) W:=by
 rcases K.find W g a h.keys with ⟨_,h2⟩|⟨j,p,h1,h2,n⟩
 ·exact absurd c (h2 e (OR b))
 ·have d:i=j:=by
   have o:(a.map (·.key))[i]?=key:=by rw[i8,b];simp[c]
   have f:(a.map (·.key))[j]?=key:=by rw[i8,h2];simp[n]
   exact Ej h.nd o f
  subst d;rw[b] at h2;cases h2
  exact h1
theorem Mp.zi(K:Keyed prog k)(h:Mp k w m Z ck){a:Lit}(f:keyOf prog k key=a)(b:∀e∈Z,e.key≠key)(W:World):
 (Instr.findKey k key Z).run prog W=.ok none W:=by
 rcases K.find W f Z h.keys with ⟨h1,_⟩|⟨j,c,_,h2,d⟩
 ·exact h1
 ·exact absurd d (b c (OR h2))
theorem Mp.lookup{k:TypeId}(K:Keyed prog k){t e:TypeId}(g:prog.underlying t=some (.map k e)){w:World}{m:Nat}{b:List MapEntry}{ck:Nat}(h:Mp k w m b ck){key:Value}{f:Lit}(a:keyOf prog k key=f){j:Nat}{x:MapEntry}(i:b[j]?=x)(d:x.key=key)(c:Bool):
 (Instr.lookup t (.map (some m)) key c).run prog w=.ok (if c then .tuple #[x.val,Zl true] else x.val) w:=by
 simp[Instr.lookup,UU g,UG h.at_,K.check w _ a,h.find K a i d w]
theorem Mp.tH(K:Keyed prog k)(f:prog.underlying X=some (.map k e))(h:Mp k w m Z ck){b:Lit}(a:keyOf prog k key=b)(d:∀e∈Z,e.key≠key){z:Value}(g:(zeroValue e).run prog w=.ok z w)(c:Bool):
 (Instr.lookup X (.map (some m)) key c).run prog w=.ok (if c then .tuple #[z,Zl false] else z) w:=by
 simp[Instr.lookup,UU f,UG h.at_,K.check w _ a,h.zi K a d w,g]
theorem ic(h:m<w):(setBlock w m W).heap[m]?=W:=by
 unfold setBlock;simp[h]
theorem gS:w.grownBy (setBlock w m W) (some m):=by
 refine⟨rfl,rfl,rfl,by unfold setBlock;simp,λb c a=>?_⟩;unfold setBlock;rw[Uh];rw[UX (λe=>a (by rw[e]))]
def fS(es:List MapEntry)(key val:Value)(ck:Nat):List MapEntry:=es++[⟨key,val,ck⟩]
theorem Mp.push{es:List MapEntry}(h:Mp k w m es ck){d:Lit}(l:keyOf prog k key=d)(g:∀e∈es,e.key≠key)(f:Value)(n:v.heap[m]?=some (.map (fS es key f ck).toArray (ck+1))):
 Mp k v m (fS es key f ck) (ck+1):=by
 refine⟨n,λe a=>?_,?_,?_,λe a=>?_⟩
 ·rcases ip.1 a with h1|h1
  ·exact h.keys e h1
  ·simp at h1;exact⟨d,by rw[h1];exact l⟩
 ·unfold fS;rw[le,List.nodup_append];refine⟨h.nd,by simp,λi c j b=>?_⟩;simp at b;obtain⟨e,a,rfl⟩:=m8.1 c;rw[b];exact g e a
 ·unfold fS;rw[le,List.nodup_append];refine⟨h.bn,by simp,λi c j b=>?_⟩;simp at b;obtain⟨e,a,rfl⟩:=m8.1 c;have:=h.lt e a;omega
 ·rcases ip.1 a with h1|h1
  ·have:=h.lt e h1;omega
  ·simp at h1;rw[h1];show ck<ck+1;omega
theorem Mp.oI(K:Keyed prog k)(f:prog.underlying X=some (.map k e))(h:Mp k w m Z ck){b:Lit}(a:keyOf prog k key=b)(d:∀e∈Z,e.key≠key)(v:Value):
 (Instr.mapUpdate X (.map (some m)) key v).run prog w=.ok () (setBlock w m (.map (fS Z key v ck).toArray (ck+1))):=by
 have c:Z.toArray.push ⟨key,v,ck⟩=(fS Z key v ck).toArray:=by unfold fS;simp
 simp only[Instr.mapUpdate,T7,UU f,UG h.at_,K.check w _ a,h.zi K a d w,Result.andThen,c,MapKept.run_setObj_map _ h.at_];rfl
theorem Mp.erase(h:Mp k w m Z ck)(i:Nat)(b:v.heap[m]?=some (.map (Z.eraseIdx i).toArray ck)):Mp k v m (Z.eraseIdx i) ck:=
 ⟨b,λe a=>h.keys e (List.mem_of_mem_eraseIdx a),h.nd.sublist ((Ub Z i).map _),h.bn.sublist ((Ub Z i).map _),λe a=>h.lt e (List.mem_of_mem_eraseIdx a)⟩
theorem Mp.del(K:Keyed prog k){ty:TypeId}(d:prog.underlying X=some (.map k e))(h:Mp k w m Z ck){c:Lit}(a:keyOf prog k key=c)(f:Z[n]?=U)(b:U.key=key):
 (Builtin.delete_ #[X,k] ty #[.map (some m),key]).run prog w=.ok (.tuple #[]) (setBlock w m (.map (Z.eraseIdx n).toArray ck)):=by
 simp[Builtin.delete_,UU d,UG h.at_,K.check w _ a,h.find K a f b w,MapKept.run_setObj_map _ h.at_,setBlock]
