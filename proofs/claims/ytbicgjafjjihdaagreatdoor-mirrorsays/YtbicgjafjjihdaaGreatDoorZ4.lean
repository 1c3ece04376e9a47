/- Part. -/
import Derived.Deep.WholeRow
import Derived.Test.YtbicgjafjjihdaaGreatDoorZ3
set_option maxHeartbeats 16000000
set_option maxRecDepth 100000
namespace Go.Proofs.YtbicgjafjjihdaaGreatDoor
section
open Go.RowKit
theorem rG (W:World) (g n sCap b off:Nat) (t:TypeId) (cur:Array Value) (news:List Int) (hg:g=W.heap.size) (hc:cur.size=n) (hn:news.length=n) (hb:b<W.heap.size) (hsrc:∀ j,j<n→W.cell? ⟨b,off+j,none⟩=some (.int .u8 (news.getD j 0))) :
 Sem.run Tryz.prog (Builtin.copy_ #[78,78] 3 #[.slice (some ⟨g,0,none⟩) n n,.slice (some ⟨b,off,none⟩) n sCap]) (W.alloc (.cells cur t))=.ok (.int .i64 n) (W.alloc (.cells (news.map (Value.int .u8)).toArray t)):=by
 subst hg;have h:=run_copy_row (P:=Tryz.prog) (W.alloc (.cells cur t)) 78 78 3 5 W.heap.size 0 n n ⟨b,off,none⟩ n sCap cur t (news.map (Value.int .u8)) Tryz.underlying78 (by kernel_rfl) (heap_alloc_new W _) (by simp[hn]) (by
  intro j v hj;have hlt:j<news.length:=by
   rcases Nat.lt_or_ge j news.length with h|h
   ·exact h
   ·rw[List.getElem?_eq_none (by simpa using h)] at hj;cases hj
  have hadd:(⟨b,off,none⟩:Addr).add j=⟨b,off+j,none⟩:=by unfold Addr.add;split<;>simp_all
  rw[hadd,World.cell?_alloc_lt _ _ _ hb,hsrc j (by omega)];rw[List.getElem?_map,F0 hlt] at hj;rw[Ga,F0 hlt];exact hj) (by simp;omega) (by
  intro v hv;obtain⟨z,_,rfl⟩:=List.mem_map.1 hv;rfl)
 rw[h,World.setRow_alloc_new];have e:cur.toList.drop (0+(news.map (Value.int .u8)).length)=[]:=List.drop_eq_nil_of_le (by simp;omega);rw[e];simp[goInt,hn]
theorem four {w:World} {b off:Nat} (l:List Int) (hl:l.length=4) (hc:∀ i,i<4→w.cell? ⟨b,off+i,none⟩=some (.int .u8 (l.getD i 0))) :
 ∃ z0 z1 z2 z3:Int,l=[z0,z1,z2,z3]∧w.cell? ⟨b,off,none⟩=some (.int .u8 z0)∧w.cell? ⟨b,off+1,none⟩=some (.int .u8 z1)∧w.cell? ⟨b,off+2,none⟩=some (.int .u8 z2)∧w.cell? ⟨b,off+3,none⟩=some (.int .u8 z3):=by
 match l,hl with
 | [z0, z1, z2, z3], _ => exact ⟨z0, z1, z2, z3, rfl, hc 0 (by omega), hc 1 (by omega), hc 2 (by omega), hc 3 (by omega)⟩
theorem sS (b off cap:Nat) (l:List Int) (w:World) (hl:Bytes w (some ⟨b,off,none⟩) 4 l) :
 Calls Tryz.prog 120 #[.slice (some ⟨b,off,none⟩) 4 cap] w fun e w'=>e=.returned (.agg (l.map (Value.int .u8)).toArray)∧Gq w w':=by
 obtain⟨z0,z1,z2,z3,rfl,e0,e1,e2,e3⟩:=four (w:=w) (b:=b) (off:=off) l hl.1 (by
  obtain⟨b',off',ha,hc⟩:=hl.2.2.2 (by omega);cases ha
  exact hc)
 clear hl;have hcp:Sem.run Tryz.prog (Builtin.copy_ #[78,78] 3 #[.slice (some ⟨w.heap.size+1,0,none⟩) 4 4,.slice (some ⟨b,off,none⟩) 4 cap])
  ((w.alloc (.cells #[.int .u8 0,.int .u8 0,.int .u8 0,.int .u8 0] 225)).alloc (.cells #[.int .u8 0,.int .u8 0,.int .u8 0,.int .u8 0] 225)) =
  .ok (.int .i64 4) ((w.alloc (.cells #[.int .u8 0,.int .u8 0,.int .u8 0,.int .u8 0] 225)).alloc (.cells #[.int .u8 z0,.int .u8 z1,.int .u8 z2,.int .u8 z3] 225)):=by
  have hb:b<w.heap.size:=World.block_lt_of_cell? w _ e0;exact rG (w.alloc (.cells #[.int .u8 0,.int .u8 0,.int .u8 0,.int .u8 0] 225)) (w.heap.size+1) 4 cap b off 225 #[.int .u8 0,.int .u8 0,.int .u8 0,.int .u8 0] [z0,z1,z2,z3] (by simp) rfl rfl (by simp;exact Nat.lt_succ_of_lt hb) (by
   intro j hj;rw[World.cell?_alloc_lt _ _ ⟨b,off+j,none⟩ hb]
   match j,hj with
   | 0, _ => exact e0
   | 1, _ => exact e1
   | 2, _ => exact e2
   | 3, _ => exact e3)
 go_enter Tryz.func120,Tryz.ntmps120;go_wp2
 refine bodyPost_ret (v:=.agg #[.int .u8 z0,.int .u8 z1,.int .u8 z2,.int .u8 z3]) (by simp[results,Tryz.results120,go_sem]) rfl ⟨rfl,?_⟩;exact((Below.refl _ _).alloc (Gi _) _).alloc (by simp) _
end
section

namespace Mx
theorem By (kind:Int) (al:List Int) (nb:Nat) (bs:List Int) :
 aY kind al nb bs=(16*kind+(al.length:Int))::(nb:Int)::(bL al++(bs++dL (crc (db kind al nb bs)))):=by
 simp[aY,db]
theorem aE.head {l:List Int} {kind:Int} {al:List Int} {nb:Nat} {bs:List Int} (h:aE l kind al nb bs) :
 l.getD 0 0=16*kind+(al.length:Int)∧l.getD 1 0=(nb:Int)∧l.length=6+(bL al).length+8*nb∧0≤kind∧kind≤15∧al.length≤12∧nb≤32:=by
 obtain⟨m1,m2,m3,m4⟩:=h;obtain⟨a1,a2,a3,a4,a5⟩:=du m1;rw[By] at m4;refine⟨by rw[←m4];rfl,by rw[←m4];rfl,?_,a1,a2,a3,a4⟩;rw[←m4];simp[m2,ia];omega
theorem mo (a b:List Int):bL (a++b)=bL a++bL b:=by simp[bL]
end Mx
end
section
open Go.RowKit
variable {w w':World} {base n g B c:Nat} {v s0 s1 s2:Value} {l:List Int} {a:Option Addr}
def aV (w:World) (base:Nat) (v:Value) (l:List Int):Prop:=w.ownsRow base 3 1 v l.length (l.map (Value.int .i64))
def gK (w:World) (base:Nat) (v:Value) (n:Nat) (bs:List Int):Prop:=bs.length=8*n∧w.ownsRow base 33 8 v n (bs.map (Value.int .u8))
theorem Tryz.info3:(Tryz.prog.info? 3).map (fun i=>(i.zero,i.size,i.bytes))=some (some (.int .i64 0),1,8):=by kernel_rfl
theorem Tryz.info33:(Tryz.prog.info? 33).map (fun i=>(i.zero,i.size,i.bytes))=some (some (.agg #[.int .u8 0,.int .u8 0,.int .u8 0,.int .u8 0,.int .u8 0,.int .u8 0,.int .u8 0,.int .u8 0]),8,8):=by kernel_rfl
theorem aV.nil (w:World) (base:Nat):aV w base (.slice none 0 0) []:=World.ownsRow_nil w base 3 1
theorem gK.nil (w:World) (base:Nat):gK w base (.slice none 0 0) 0 []:=⟨rfl,World.ownsRow_nil w base 33 8⟩
theorem bm {e size:Nat} {xs:List Value} (h:w.ownsRow base e size v n xs) (hb:Gq w w'):w'.ownsRow base e size v n xs :=
 World.ownsRow.kept h (row:=none) ⟨hb.os,hb.tape,hb.output,hb.size,fun k hk _=>hb.block k hk⟩ (by cases v.ownBlock<;>simp)
theorem aV.ints (h:aV w base v l):∃ a c,v=.slice a l.length c∧ay w a l.length l:=by
 rcases h.2 with ⟨hv,hz⟩|⟨g,cap,cur,hv,_,hh,hle,hmx,_⟩
 ·have hnil:l=[]:=List.eq_nil_of_length_eq_zero hz
  subst hnil;exact⟨none,0,hv,rfl,by unfold maxLen;simp,fun h=>absurd h (by simp)⟩
 ·have hc:=World.ownsRow.cells h (g:=g) (by rw[hv];rfl)
  refine⟨_,cap,hv,rfl,by omega,fun _=>⟨g,0,rfl,(Array.getElem?_eq_some_iff.1 hh).1,fun i hi=>?_⟩⟩;have:=hc i (.int .i64 (l.getD i 0)) (by rw[List.getElem?_map,Ga,F0 hi];rfl);have hadd:(⟨g,0,none⟩:Addr).add i=⟨g,0+i,none⟩:=by unfold Addr.add;split<;>simp_all
  rw[←hadd];exact this
theorem gK.Aq {bs:List Int} (h:gK w base v n bs) (hb:∀ x∈bs,0≤x∧x≤255):∃ a c,v=.slice a n c∧aS w a n bs:=by
 obtain⟨h8,h⟩:=h;rcases h.2 with ⟨hv,hz⟩|⟨g,cap,cur,hv,_,hh,hle,hmx,_⟩
 ·subst hz
  exact⟨none,0,hv,h8,by unfold maxLen;simp,hb,fun h=>absurd h (by simp)⟩
 ·have hc:=World.ownsRow.cells h (g:=g) (by rw[hv];rfl)
  refine⟨_,cap,hv,h8,by omega,hb,fun _=>⟨g,0,rfl,(Array.getElem?_eq_some_iff.1 hh).1,fun i hi=>?_⟩⟩;have:=hc i (.int .u8 (bs.getD i 0)) (by rw[List.getElem?_map,Ga,F0 (show i<bs.length by omega)];rfl);have hadd:(⟨g,0,none⟩:Addr).add i=⟨g,0+i,none⟩:=by unfold Addr.add;split<;>simp_all
  rw[←hadd];exact this
def aW (w:World) (g:Nat) (s0 s1 s2:Value):Prop:=w.heap[g]?=some (.cells #[s0,s1,s2] 173 (0,0))
theorem aW.cell0 (h:aW w g s0 s1 s2):w.cell? ⟨g,0,none⟩=some s0:=by unfold World.cell?;rw[h];rfl
theorem aW.jo (h:aW w g s0 s1 s2):w.cell? ⟨g,1,none⟩=some s1:=by unfold World.cell?;rw[h];rfl
theorem aW.jq (h:aW w g s0 s1 s2):w.cell? ⟨g,2,none⟩=some s2:=by unfold World.cell?;rw[h];rfl
theorem aW.frozen {w:World} {g:Nat} {s0 s1 s2:Value} (h:aW w g s0 s1 s2) (o:Nat):w.frozen? ⟨g,o,none⟩=false:=by unfold World.frozen?;rw[h];simp
theorem aW.lt (h:aW w g s0 s1 s2):g<w.heap.size:=(Array.getElem?_eq_some_iff.1 h).1
theorem aW.later (h:aW w g s0 s1 s2) (hb:Below B w w') (hg:g<B):aW w' g s0 s1 s2:=(hb.block g hg).trans h
theorem aW.other (h:aW w g s0 s1 s2) (p:Addr) (v:Value) (hp:g≠p.block):aW (w.setCell p v) g s0 s1 s2:=(Below.heap_setCell w p v g hp).trans h
theorem aW.tg (h:aW w g s0 s1 s2) (v:Value):aW (w.setCell ⟨g,0,none⟩ v) g v s1 s2:=by
 unfold aW at *;simp[World.setCell,Array.getElem?_modify,h]
theorem aW.mV (h:aW w g s0 s1 s2) (v:Value):aW (w.setCell ⟨g,1,none⟩ v) g s0 v s2:=by
 unfold aW at *;simp[World.setCell,Array.getElem?_modify,h]
theorem aW.ew (h:aW w g s0 s1 s2) (v:Value):aW (w.setCell ⟨g,2,none⟩ v) g s0 s1 v:=by
 unfold aW at *;simp[World.setCell,Array.getElem?_modify,h]
theorem aW.stored (h:aW w g s0 s1 s2) (x y z:Value) :
 (w.setCell ⟨g,0,none⟩ x).cell? ⟨g,0,none⟩=some x∧((w.setCell ⟨g,0,none⟩ x).setCell ⟨g,1,none⟩ y).cell? ⟨g,1,none⟩=some y ∧
 (((w.setCell ⟨g,0,none⟩ x).setCell ⟨g,1,none⟩ y).setCell ⟨g,2,none⟩ z).cell? ⟨g,2,none⟩=some z :=
 ⟨(h.tg x).cell0,((h.tg x).mV y).jo,(((h.tg x).mV y).ew z).jq⟩
theorem eC (h:Below B w w') (hg:B≤g) (x y z:Value):Below B w (((w'.setCell ⟨g,0,none⟩ x).setCell ⟨g,1,none⟩ y).setCell ⟨g,2,none⟩ z) :=
 ((h.setCell (p:=⟨g,0,none⟩) hg x).setCell (p:=⟨g,1,none⟩) hg y).setCell (p:=⟨g,2,none⟩) hg z
theorem jK (w:World) (g k:Nat) (h:k≠g) (x y z:Value):(((w.setCell ⟨g,0,none⟩ x).setCell ⟨g,1,none⟩ y).setCell ⟨g,2,none⟩ z).heap[k]?=w.heap[k]?:=by
 rw[Below.heap_setCell _ _ _ _ h,Below.heap_setCell _ _ _ _ h,Below.heap_setCell _ _ _ _ h]
theorem ay.stored (h:ay w a n l) (g:Nat) (hg:∀ p,a=some p→g<p.block) (x y z:Value):ay (((w.setCell ⟨g,0,none⟩ x).setCell ⟨g,1,none⟩ y).setCell ⟨g,2,none⟩ z) a n l:=by
 obtain⟨h1,h2,h4⟩:=h;refine⟨h1,h2,fun hp=>?_⟩;obtain⟨b,off,ha,hlt,hc⟩:=h4 hp;have hb:=hg _ ha;refine⟨b,off,ha,by simpa [World.setCell] using hlt,fun i hi=>?_⟩;rw[World.cell?_of_block (w:=w) (a:=⟨b,off+i,none⟩) (jK w g b (by simp at hb;omega) x y z)];exact hc i hi
theorem aS.stored (h:aS w a n l) (g:Nat) (hg:∀ p,a=some p→g<p.block) (x y z:Value):aS (((w.setCell ⟨g,0,none⟩ x).setCell ⟨g,1,none⟩ y).setCell ⟨g,2,none⟩ z) a n l:=by
 obtain⟨h1,h2,h3,h4⟩:=h;refine⟨h1,h2,h3,fun hp=>?_⟩;obtain⟨b,off,ha,hlt,hc⟩:=h4 hp;have hb:=hg _ ha;refine⟨b,off,ha,by simpa [World.setCell] using hlt,fun i hi=>?_⟩;rw[World.cell?_of_block (w:=w) (a:=⟨b,off+i,none⟩) (jK w g b (by simp at hb;omega) x y z)];exact hc i hi
theorem aV.vm (h:aV w base (.slice a n c) l):∀ p,a=some p→base≤p.block:=fun p hp=>(World.ownsRow.lt h p.block (by rw[hp];rfl)).1
theorem gK.vm {m:Nat} (h:gK w base (.slice a n c) m l):∀ p,a=some p→base≤p.block:=fun p hp=>(World.ownsRow.lt h.2 p.block (by rw[hp];rfl)).1
theorem aW.new (w:World) (s0 s1 s2:Value):aW (w.alloc (.cells #[s0,s1,s2] 173)) w.heap.size s0 s1 s2:=heap_alloc_new w _
theorem aV.cap {w:World} {base n c:Nat} {a:Option Addr} {l:List Int} (h:aV w base (.slice a n c) l):n≤c:=by
 rcases h.2 with ⟨hv,_⟩|⟨g,cap,cur,hv,_,_,hle,_⟩
 ·cases hv
  exact Gi _
 ·cases hv
  exact hle
theorem gK.cap {w:World} {base m n c:Nat} {a:Option Addr} {l:List Int} (h:gK w base (.slice a n c) m l):n≤c:=by
 rcases h.2.2 with ⟨hv,_⟩|⟨g,cap,cur,hv,_,_,hle,_⟩
 ·cases hv
  exact Gi _
 ·cases hv
  exact hle
end
section
open Go.RowKit
variable {l:List Int} {w w':World}
theorem vM (h:l.length<6):∀ kind al nb bs,¬Mx.aE l kind al nb bs:=fun _ _ _ _ hf=>by
 have:=hf.head;omega
def Told (w w':World) (l:List Int) (e:Ending) (yes no:Value):Prop :=
 (∃ kind al nb bs a1 c1 a2 c2,e=.returned (.tuple #[.agg #[.int .i64 kind,.slice a1 al.length c1,.slice a2 nb c2],yes])∧Mx.aE l kind al nb bs∧ay w' a1 al.length al∧aS w' a2 nb bs∧Gq w w') ∨
 (e=.returned (.tuple #[.agg #[.int .i64 0,.slice none 0 0,.slice none 0 0],no])∧(∀ kind al nb bs,¬Mx.aE l kind al nb bs)∧Gq w w')
def vk (w w':World) (l:List Int) (e:Ending) (yes no:Value):Prop :=
 (∃ kind al nb bs a1 c1 a2 c2,e=.returned (.tuple #[.agg #[.int .i64 kind,.slice a1 al.length c1,.slice a2 nb c2],yes])∧Mx.aE l kind al nb bs∧ay w' a1 al.length al∧aS w' a2 nb bs∧(∀ p,a1=some p→w.heap.size≤p.block)∧(∀ p,a2=some p→w.heap.size≤p.block)∧al.length≤c1∧nb≤c2∧Gq w w') ∨
 (e=.returned (.tuple #[.agg #[.int .i64 0,.slice none 0 0,.slice none 0 0],no])∧(∀ kind al nb bs,¬Mx.aE l kind al nb bs)∧Gq w w')
theorem vk.told {e:Ending} {yes no:Value} (h:vk w w' l e yes no):Told w w' l e yes no:=by
 rcases h with ⟨k,al,nb,bs,a1,c1,a2,c2,h1,h2,h3,h4,_,_,_,_,h5⟩|h
 ·exact .inl ⟨k,al,nb,bs,a1,c1,a2,c2,h1,h2,h3,h4,h5⟩
 ·exact .inr h
def eI (w wr:World) (s0 v1 v2:Value):Prop :=
 aW wr w.heap.size (.int .i64 0) (.slice none 0 0) (.slice none 0 0)∧aW wr (w.heap.size+1) s0 v1 v2∧Gq w wr∧w.heap.size+2≤wr.heap.size
theorem eI.start (w:World) (s0:Value):eI w ((w.alloc (.cells #[.int .i64 0,.slice none 0 0,.slice none 0 0] 173)).alloc (.cells #[s0,.slice none 0 0,.slice none 0 0] 173)) s0 (.slice none 0 0) (.slice none 0 0):=by
 refine⟨?_,?_,((Below.refl _ _).alloc (Gi _) _).alloc (by simp) _,by simp⟩
 ·exact(aW.new w _ _ _).later (B:=w.heap.size+1) ((Below.refl _ _).alloc (by simp) _) (by omega)
 ·have:=aW.new (w.alloc (.cells #[.int .i64 0,.slice none 0 0,.slice none 0 0] 173)) s0 (.slice none 0 0) (.slice none 0 0)
  simpa using this
theorem eI.later {w wr w':World} {s0 v1 v2:Value} (h:eI w wr s0 v1 v2) (hb:Below (w.heap.size+2) wr w'):eI w w' s0 v1 v2 :=
 ⟨h.1.later hb (by omega),h.2.1.later hb (by omega),h.2.2.1.trans (hb.mono (by omega)),by have:=hb.size;have:=h.2.2.2;omega⟩
theorem eI.mV {w wr:World} {s0 v1 v2:Value} (h:eI w wr s0 v1 v2) (v:Value):eI w (wr.setCell ⟨w.heap.size+1,1,none⟩ v) s0 v v2 :=
 ⟨h.1.other _ _ (by simp),h.2.1.mV v,h.2.2.1.setCell (by simp) v,by have:=h.2.2.2;simpa [World.setCell] using this⟩
theorem eI.ew {w wr:World} {s0 v1 v2:Value} (h:eI w wr s0 v1 v2) (v:Value):eI w (wr.setCell ⟨w.heap.size+1,2,none⟩ v) s0 v1 v :=
 ⟨h.1.other _ _ (by simp),h.2.1.ew v,h.2.2.1.setCell (by simp) v,by have:=h.2.2.2;simpa [World.setCell] using this⟩
theorem eI.facts {wr:World} {s0 v1 v2:Value} (h:eI w wr s0 v1 v2) :
 wr.cell? ⟨w.heap.size+1,0,none⟩=some s0∧wr.cell? ⟨w.heap.size+1,1,none⟩=some v1∧wr.cell? ⟨w.heap.size+1,2,none⟩=some v2∧(∀ o,wr.frozen? ⟨w.heap.size+1,o,none⟩=false) ∧
 wr.cell? ⟨w.heap.size,0,none⟩=some (.int .i64 0)∧wr.cell? ⟨w.heap.size,1,none⟩=some (.slice none 0 0)∧wr.cell? ⟨w.heap.size,2,none⟩=some (.slice none 0 0)∧(∀ o,wr.frozen? ⟨w.heap.size,o,none⟩=false) ∧
 w.heap.size<wr.heap.size∧w.heap.size+1<wr.heap.size :=
 ⟨h.2.1.cell0,h.2.1.jo,h.2.1.jq,h.2.1.frozen,h.1.cell0,h.1.jo,h.1.jq,h.1.frozen,h.1.lt,h.2.1.lt⟩
theorem pB (l:List Int) (A j:Nat):(l.drop A).getD j 0=l.getD (A+j) 0:=by
 rw[Ga,List.getElem?_drop,←Ga]
theorem sZ {base e size n C:Nat} {v:Value} {xs:List Value} (h:w.ownsRow base e size v n xs) (hlt:∀ g,v.ownBlock=some g→g<C) (hb:Below C w w'):w'.ownsRow base e size v n xs:=by
 refine⟨h.1,?_⟩;rcases h.2 with h2|⟨g,cap,cur,hv,hg,hh,r⟩
 ·exact .inl h2
 ·exact .inr ⟨g,cap,cur,hv,hg,(hb.block g (hlt g (by rw[hv];rfl))).trans hh,r⟩
end
end Go.Proofs.YtbicgjafjjihdaaGreatDoor
