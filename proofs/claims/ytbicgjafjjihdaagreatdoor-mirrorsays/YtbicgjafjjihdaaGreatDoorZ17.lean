/- Part. -/
import Derived.Test.YtbicgjafjjihdaaGreatDoorZ9
import Derived.Test.YtbicgjafjjihdaaGreatDoorZ15
import Derived.Test.YtbicgjafjjihdaaGreatDoorZ16
set_option maxHeartbeats 16000000
set_option maxRecDepth 100000
namespace Go.Proofs.YtbicgjafjjihdaaGreatDoor
open Go.RowKit
section
open Go.ChangeMaps (setBlock)
structure Ex (S:Nat→Prop) (w w':World):Prop extends Ext S w w' where
 os:w'.os=w.os
 tape:w'.tape=w.tape
 output:w'.output=w.output
theorem Ex.refl (S:Nat→Prop) (w:World):Ex S w w:=⟨Ext.refl S w,rfl,rfl,rfl⟩
theorem Ex.trans {S:Nat→Prop} {w w' w'':World} (h:Ex S w w') (h':Ex S w' w''):Ex S w w'':=⟨h.toExt.trans h'.toExt,h'.os.trans h.os,h'.tape.trans h.tape,h'.output.trans h.output⟩
theorem Ex.mono {S S':Nat→Prop} {w w':World} (h:Ex S w w') (hs:∀ b,b<w.heap.size→S b→S' b):Ex S' w w':=⟨h.toExt.mono hs,h.os,h.tape,h.output⟩
theorem Ex.below {S:Nat→Prop} {w w':World} (h:Gq w w'):Ex S w w':=⟨Ext.below h,h.os,h.tape,h.output⟩
theorem Ex.bx {S:Nat→Prop} {w w':World} {g:Nat} {cs:Array Value} {t:TypeId} (h:Ex S w w') (hx:Bx w g cs t) (hs:¬S g):Bx w' g cs t:=Ext.bx h.toExt hx hs
theorem Ex.one {w w':World} {g:Nat} (h:w.grownBy w' (some g)):Ex (fun b=>b=g) w w':=⟨⟨h.size,fun b hb hn=>h.block b hb (fun e=>hn (Gg e))⟩,h.os,h.tape,h.output⟩
theorem Ex.chain {A T:Nat→Prop} {w v w':World} (h1:Ex A w v) (h2:Ex T v w') (ht:∀ b,b<w.heap.size→T b→A b):Ex A w w' :=
 ⟨⟨Gn h1.size h2.size,fun b hb hn=>(h2.block b (Gf hb h1.size) (fun t=>hn (ht b hb t))).trans (h1.block b hb hn)⟩,h2.os.trans h1.os,h2.tape.trans h1.tape,h2.output.trans h1.output⟩
theorem Ex.toBelow_of {S:Nat→Prop} {w w':World} {B:Nat} (h:Ex S w w') (hB:B≤w.heap.size) (hs:∀ b,S b→B≤b):Below B w w':=⟨h.os,h.tape,h.output,h.size,fun k hk=>h.block k (by omega) (fun e=>by have:=hs k e;omega)⟩
def cY (S:Nat→Prop):Nat→Prop:=fun b=>¬S b
def Nby (w:World) (b:Nat):Prop:=∀ o,∃ j,j<16∧∀ v,w.cell? ⟨b,o+j,none⟩≠some (.int .u8 v)
theorem Nby.of {w:World} {b:Nat} (h:∀ o v,w.cell? ⟨b,o,none⟩≠some (.int .u8 v)):Nby w b:=fun o=>⟨0,by omega,fun v=>h o v⟩
theorem Nby.same {w w':World} {b:Nat} (h:Nby w b) (hc:∀ o,w'.cell? ⟨b,o,none⟩=w.cell? ⟨b,o,none⟩):Nby w' b:=fun o=>by
 obtain⟨j,hj,hn⟩:=h o;exact⟨j,hj,fun v=>by rw[hc];exact hn v⟩
structure Mut (S:Nat→Prop) (w:World):Prop where
 lt:∀ b,S b→b<w.heap.size
 no:∀ b,S b→Nby w b
theorem Mut.later {S:Nat→Prop} {w w':World} (h:Mut S w) (hb:Gq w w'):Mut S w' :=
 ⟨fun b hs=>Gf (h.lt b hs) hb.size,fun b hs=>(h.no b hs).same fun o=>hb.cell (p:=⟨b,o,none⟩) (h.lt b hs)⟩
def iV (cs:Array Value):Prop:=∀ (j:Nat) (v:Int),cs[j]?≠some (.int .u8 v)
def iM:Value→Bool
 | .int .u8 _ => false
 | _ => true
theorem dB (cs:List Value) (h:cs.all iM=true):iV cs.toArray:=fun j v e=>by
 have e':cs[j]?=some (.int .u8 v):=by simpa using e
 have h1:=List.all_eq_true.1 h _ (Gp e');cases h1
theorem Mut.dZ {S:Nat→Prop} {w w':World} {g:Nat} {cs:Array Value} {t:TypeId} (h:Mut S w) (hx:Ex (fun b=>b=g) w w') (hb:Bx w' g cs t) (hn:iV cs):Mut S w':=by
 refine⟨fun b hs=>Gf (h.lt b hs) hx.size,fun b hs=>?_⟩;by_cases e:b=g
 ·subst e
  exact Nby.of fun o v=>by rw[hb.cell];exact hn o v
 ·exact(h.no b hs).same fun _=>hx.cell (h.lt b hs) e
theorem Mut.add {S:Nat→Prop} {w:World} {g:Nat} {cs:Array Value} {t:TypeId} (h:Mut S w) (hb:Bx w g cs t) (hn:iV cs):Mut (fun b=>S b∨b=g) w:=by
 refine⟨fun b hs=>?_,fun b hs=>?_⟩
 ·rcases hs with hs|rfl
  ·exact h.lt b hs
  ·exact hb.lt
 ·rcases hs with hs|rfl
  ·exact h.no b hs
  ·exact Nby.of fun o v=>by rw[hb.cell];exact hn o v
theorem Mut.none (w:World):Mut (fun _=>False) w:=⟨fun _ h=>h.elim,fun _ h=>h.elim⟩
theorem sm {w:World} {m:Nat} {es:Array MapEntry} {ck:Nat} (h:w.heap[m]?=some (.map es ck)) (o:Nat):w.cell? ⟨m,o,none⟩=none:=by
 unfold World.cell?;rw[h]
theorem Mut.Ej {S:Nat→Prop} {w:World} {m:Nat} {es:Array MapEntry} {ck:Nat} (h:Mut S w) (hm:w.heap[m]?=some (.map es ck)):Mut (fun b=>S b∨b=m) w:=by
 refine⟨fun b hs=>?_,fun b hs=>?_⟩
 ·rcases hs with hs|rfl
  ·exact h.lt b hs
  ·exact(Array.getElem?_eq_some_iff.1 hm).1
 ·rcases hs with hs|rfl
  ·exact h.no b hs
  ·exact Nby.of fun o v=>by
    rw[sm hm];intro e;cases e
theorem Mut.rM {S:Nat→Prop} {w w':World} {m:Nat} {es:Array MapEntry} {ck:Nat} (h:Mut S w) (hx:Ex (fun b=>b=m) w w') (hm:w'.heap[m]?=some (.map es ck)):Mut S w':=by
 refine⟨fun b hs=>Gf (h.lt b hs) hx.size,fun b hs=>?_⟩;by_cases e:b=m
 ·subst e
  exact Nby.of fun o v=>by
   rw[sm hm];intro e;cases e
 ·exact(h.no b hs).same fun _=>hx.cell (h.lt b hs) e
def Wd (S S':Nat→Prop) (w:World):Prop:=∀ b,b<w.heap.size→S' b→S b
theorem Wd.refl (S:Nat→Prop) (w:World):Wd S S w:=fun _ _ h=>h
theorem Wd.add {S S':Nat→Prop} {w:World} {g:Nat} (h:Wd S S' w) (hg:w.heap.size≤g):Wd S (fun b=>S' b∨b=g) w:=fun b hb hs=>by
 rcases hs with hs|rfl
 ·exact h b hb hs
 ·omega
theorem Wd.trans {S S' S'':Nat→Prop} {w w':World} (h:Wd S S' w) (h':Wd S' S'' w') (hs:w.heap.size≤w'.heap.size):Wd S S'' w:=fun b hb h2=>h b hb (h' b (Gf hb hs) h2)
theorem BL.Cx {S:Nat→Prop} {w:World} {a:Option Addr} {n:Nat} {l:List B8} (h:BL w a n l) (hm:Mut S w) (h2:2≤n):Av (cY S) a n:=fun hn p hp hs=>by
 obtain⟨h1,hr⟩:=h;obtain⟨b,off,ha,_,hc⟩:=hr.2.2 hn;rw[ha] at hp;cases hp
 obtain⟨j,hj,hno⟩:=hm.no b hs off;have hx:l[j/8]?=some (l[j/8]'(by omega)):=F0 _;have h8:j%8<8:=Nat.mod_lt _ (by omega);have hat:=cQ B8.cs 8 (fun _=>rfl) l (j/8) (j%8) _ hx h8;have key:∀ (y:B8) (i:Nat),i<8→∃ v,y.cs[i]?=some (.int .u8 v):=fun y i hi=>by
  match i,hi with
  | 0, _ => exact ⟨_, rfl⟩
  | 1, _ => exact ⟨_, rfl⟩
  | 2, _ => exact ⟨_, rfl⟩
  | 3, _ => exact ⟨_, rfl⟩
  | 4, _ => exact ⟨_, rfl⟩
  | 5, _ => exact ⟨_, rfl⟩
  | 6, _ => exact ⟨_, rfl⟩
  | 7, _ => exact ⟨_, rfl⟩
 obtain⟨v,hv⟩:=key (l[j/8]'(by omega)) (j%8) h8;have e8:j/8*8+j%8=j:=by omega
 rw[e8,hv] at hat;exact hno v (hc j _ hat)
theorem cA.ltA {w:World} {a:Option Addr} {n size:Nat} {xs:List Value} (h:cA w a n size xs):Av (fun b=>b<w.heap.size) a n:=fun hn p hp=>by
 obtain⟨b,off,ha,hlt,_⟩:=h.2.2 hn;rw[ha] at hp;cases hp
 exact hlt
theorem cA.ext {S:Nat→Prop} {w w':World} {a:Option Addr} {n size:Nat} {xs:List Value} (h:cA w a n size xs) (hx:Ex S w w') (hp:Av (cY S) a n):cA w' a n size xs:=by
 refine⟨h.1,h.2.1,fun hn=>?_⟩;obtain⟨b,off,ha,hlt,hc⟩:=h.2.2 hn;refine⟨b,off,ha,Gf hlt hx.size,fun j u hj=>?_⟩;rw[hx.cell hlt (hp hn _ ha)];exact hc j u hj
def BLo (S:Nat→Prop) (w:World) (a:Option Addr) (n:Nat) (l:List B8):Prop:=BL w a n l∧Av (cY S) a n
def PLo (S:Nat→Prop) (w:World) (a:Option Addr) (n:Nat) (l:List Pt):Prop:=PL w a n l∧Av (cY S) a n
def Ino (S:Nat→Prop) (w:World) (a:Option Addr) (n:Nat) (l:List Int):Prop:=ay w a n l∧Av (cY S) a n
def Byo (S:Nat→Prop) (w:World) (a:Option Addr) (n:Nat) (l:List Int):Prop:=Bytes w a n l∧Av (cY S) a n
section
variable {S S':Nat→Prop} {w w':World} {a:Option Addr} {n:Nat}
theorem Av.ext {P:Nat→Prop} (h:Av (cY S) a n) (hl:Av P a n) (hw:∀ b,P b→S' b→S b):Av (cY S') a n:=fun hn p hp hs=>h hn p hp (hw _ (hl hn p hp) hs)
theorem BLo.ext {l:List B8} (h:BLo S w a n l) (hx:Ex S w w'):BLo S w' a n l:=⟨⟨h.1.1,h.1.2.ext hx h.2⟩,h.2⟩
theorem PLo.ext {l:List Pt} (h:PLo S w a n l) (hx:Ex S w w'):PLo S w' a n l:=⟨⟨h.1.1,h.1.2.ext hx h.2⟩,h.2⟩
theorem Ino.ext {l:List Int} (h:Ino S w a n l) (hx:Ex S w w'):Ino S w' a n l:=⟨h.1.ext hx.toExt h.2 (fun _ _ hh=>hh),h.2⟩
theorem Byo.ext {l:List Int} (h:Byo S w a n l) (hx:Ex S w w'):Byo S w' a n l:=⟨h.1.ext hx.toExt h.2 (fun _ _ hh=>hh),h.2⟩
theorem BLo.wd {l:List B8} (h:BLo S w a n l) (hw:Wd S S' w):BLo S' w a n l:=⟨h.1,h.2.ext h.1.2.ltA (fun b hb=>hw b hb)⟩
theorem PLo.wd {l:List Pt} (h:PLo S w a n l) (hw:Wd S S' w):PLo S' w a n l:=⟨h.1,h.2.ext h.1.2.ltA (fun b hb=>hw b hb)⟩
theorem Ino.wd {l:List Int} (h:Ino S w a n l) (hw:Wd S S' w):Ino S' w a n l:=⟨h.1,h.2.ext h.1.lt_ (fun b hb=>hw b hb)⟩
theorem Byo.wd {l:List Int} (h:Byo S w a n l) (hw:Wd S S' w):Byo S' w a n l:=⟨h.1,h.2.ext h.1.ltA (fun b hb=>hw b hb)⟩
theorem BLo.nil (S:Nat→Prop) (w:World):BLo S w none 0 []:=⟨BL.nil w,fun h=>absurd h (by omega)⟩
theorem PLo.nil (S:Nat→Prop) (w:World):PLo S w none 0 []:=⟨PL.nil w,fun h=>absurd h (by omega)⟩
theorem ay.nil (w:World):ay w none 0 []:=⟨rfl,by rw[aC];omega,fun h=>absurd h (by omega)⟩
theorem Ino.nil (S:Nat→Prop) (w:World):Ino S w none 0 []:=⟨⟨rfl,by rw[aC];omega,fun h=>absurd h (by omega)⟩,fun h=>absurd h (by omega)⟩
theorem Av.new {B:Nat} (hm:Mut S w) (hB:w.heap.size≤B) (h:∀ p,a=some p→B≤p.block):Av (cY S) a n:=fun _ p hp hs=>by
 have h1:=hm.lt _ hs;have h2:=h p hp;omega
theorem au.blo {B c:Nat} {l:List B8} (h:au w' B (.slice a n c) l) (hm:Mut S w) (hB:w.heap.size≤B):BLo S w' a n l∧n≤c:=by
 obtain⟨a',c',hv,hc,hr,hp⟩:=aA h;cases hv
 exact⟨⟨⟨rfl,hr⟩,Av.new hm hB hp⟩,hc⟩
theorem bg.plo {B c:Nat} {l:List Pt} (h:bg w' B (.slice a n c) l) (hm:Mut S w) (hB:w.heap.size≤B):PLo S w' a n l∧n≤c:=by
 obtain⟨a',c',hv,hc,hr,hp⟩:=aA h;cases hv
 exact⟨⟨⟨rfl,hr⟩,Av.new hm hB hp⟩,hc⟩
end
def ELF (P:Nat→Prop) (w:World) (a:Option Addr) (k:Nat) (es:List Ep):Prop :=
 es.length=k∧k≤maxLen∧(0<k→∃ b off,a=some ⟨b,off,none⟩∧P b∧b<w.heap.size∧∀ i e,es[i]?=some e→∃ ai ni ci,w.cell? ⟨b,off+i*2,none⟩=some (.int .i64 e.num)∧w.cell? ⟨b,off+i*2+1,none⟩=some (.slice ai ni ci)∧PL w ai ni e.aI∧ni≤ci∧Av P ai ni)
theorem ELF.nil (P:Nat→Prop) (w:World):ELF P w none 0 []:=⟨rfl,by rw[aC];omega,fun h=>absurd h (by omega)⟩
theorem ELF.el {P:Nat→Prop} {w:World} {a:Option Addr} {k:Nat} {es:List Ep} (h:ELF P w a k es):EL w a k es:=by
 obtain⟨h1,h2,h4⟩:=h;refine⟨h1,h2,fun hp=>?_⟩;obtain⟨b,off,ha,_,hlt,hc⟩:=h4 hp;refine⟨b,off,ha,hlt,fun i e he=>?_⟩;obtain⟨ai,ni,ci,c1,c2,c3,c4,_⟩:=hc i e he;exact⟨ai,ni,ci,c1,c2,c3,c4⟩
theorem ELF.imp {P P':Nat→Prop} {w:World} {a:Option Addr} {k:Nat} {es:List Ep} (h:ELF P w a k es) (hi:∀ b,b<w.heap.size→P b→P' b):ELF P' w a k es:=by
 obtain⟨h1,h2,h4⟩:=h;refine⟨h1,h2,fun hp=>?_⟩;obtain⟨b,off,ha,hb,hlt,hc⟩:=h4 hp;refine⟨b,off,ha,hi b hlt hb,hlt,fun i e he=>?_⟩;obtain⟨ai,ni,ci,c1,c2,c3,c4,c5⟩:=hc i e he;exact⟨ai,ni,ci,c1,c2,c3,c4,fun hn p hp=>hi _ (c3.2.ltA hn p hp) (c5 hn p hp)⟩
theorem ELF.E0 {P:Nat→Prop} {B:Nat} {w:World} {a:Option Addr} {k:Nat} {es:List Ep} (h:ELA B w a k es) (hi:∀ b,b<w.heap.size→B≤b→P b):ELF P w a k es:=by
 have h0:ELF (fun b=>B≤b) w a k es:=h;exact h0.imp hi
theorem ELF.ext {S:Nat→Prop} {w w':World} {a:Option Addr} {k:Nat} {es:List Ep} (h:ELF (cY S) w a k es) (hx:Ex S w w'):ELF (cY S) w' a k es:=by
 obtain⟨h1,h2,h4⟩:=h;refine⟨h1,h2,fun hp=>?_⟩;obtain⟨b,off,ha,hb,hlt,hc⟩:=h4 hp;refine⟨b,off,ha,hb,Gf hlt hx.size,fun i e he=>?_⟩;obtain⟨ai,ni,ci,c1,c2,c3,c4,c5⟩:=hc i e he;exact⟨ai,ni,ci,(hx.cell hlt hb).trans c1,(hx.cell hlt hb).trans c2,⟨c3.1,c3.2.ext hx c5⟩,c4,c5⟩
theorem ELF.wd {S S':Nat→Prop} {w:World} {a:Option Addr} {k:Nat} {es:List Ep} (h:ELF (cY S) w a k es) (hw:Wd S S' w):ELF (cY S') w a k es:=h.imp fun b hb hn hs=>hn (hw b hb hs)
structure Buo (S:Nat→Prop) (w:World) (oa:Option Addr) (on oc:Nat) (sa:Option Addr) (sn sc:Nat) (op:List Pt) (se:List Ep):Prop where
 op:PLo S w oa on op
 se:ELF (cY S) w sa sn se
 oc:on≤oc
 sc:sn≤sc
theorem Buo.nil (S:Nat→Prop) (w:World):Buo S w none 0 0 none 0 0 [] []:=⟨PLo.nil S w,ELF.nil _ w,Gi _,Gi _⟩
theorem Buo.ext {S:Nat→Prop} {w w':World} {oa:Option Addr} {on oc:Nat} {sa:Option Addr} {sn sc:Nat} {op:List Pt} {se:List Ep} (h:Buo S w oa on oc sa sn sc op se) (hx:Ex S w w'):Buo S w' oa on oc sa sn sc op se:=⟨h.op.ext hx,h.se.ext hx,h.oc,h.sc⟩
theorem Buo.wd {S S':Nat→Prop} {w:World} {oa:Option Addr} {on oc:Nat} {sa:Option Addr} {sn sc:Nat} {op:List Pt} {se:List Ep} (h:Buo S w oa on oc sa sn sc op se) (hw:Wd S S' w):Buo S' w oa on oc sa sn sc op se:=⟨h.op.wd hw,h.se.wd hw,h.oc,h.sc⟩
theorem fR.buo {S:Nat→Prop} {w w':World} {B:Nat} {v:Value} {b:Bu} (h:fR B w' v b) (hm:Mut S w) (hB:w.heap.size≤B):∃ oa on oc sa sn sc,v=.agg #[.int .i64 b.num,.slice oa on oc,.slice sa sn sc,.bool b.be]∧Buo S w' oa on oc sa sn sc b.op b.se:=by
 obtain⟨oa,on,oc,sa,sn,sc,hv,h1,h5,h2,h3,h4⟩:=h;refine⟨oa,on,oc,sa,sn,sc,hv,⟨h1,fun hn p hp hs=>?_⟩,ELF.E0 h2 (fun b _ hb hs=>?_),h3,h4⟩
 ·have e1:=hm.lt _ hs
  have e2:=h5 hn p hp;omega
 ·have e1:=hm.lt _ hs
  omega
theorem FLF.oK {S:Nat→Prop} {w w':World} {a:Option Addr} {k:Nat} {fs:List Fr} (h:FLF (cY S) w a k fs) (hx:Ex S w w'):FLF (cY S) w' a k fs:=h.ext hx.toExt (fun _ _ hh=>hh)
theorem FLF.wd {S S':Nat→Prop} {w:World} {a:Option Addr} {k:Nat} {fs:List Fr} (h:FLF (cY S) w a k fs) (hw:Wd S S' w):FLF (cY S') w a k fs:=h.imp fun b hb hn hs=>hn (hw b hb hs)
theorem SdA.sdo {S:Nat→Prop} {w w':World} {B:Nat} {v:Value} {s:Sd} (h:SdA B w' v s) (hm:Mut S w) (hB:w.heap.size≤B):∃ qa qn qc,v=.agg #[.int .i64 s.ses,.int .i64 s.base,.slice qa qn qc]∧FLF (cY S) w' qa qn s.q∧qn≤qc:=by
 obtain⟨qa,qn,qc,hv,h1,h2⟩:=h;exact⟨qa,qn,qc,hv,FLF.yU h1 (fun b _ hb hs=>by have e1:=hm.lt _ hs;omega),h2⟩
def Nd (S:Nat→Prop) (w:World) (g n:Nat) (bl:List B8) (a b:Int):Prop :=
 S g∧∃ h ls sa sc pa pc,StW w g n h ls [] (-1) sa sc pa 0 pc∧Mx.Hd n h ls bl a b∧Av (cY S) sa (Mx.sz n)
theorem Nd.later {S:Nat→Prop} {w w':World} {g n:Nat} {bl:List B8} {a b:Int} (h:Nd S w g n bl a b) (hb:Gq w w'):Nd S w' g n bl a b:=by
 obtain⟨h0,h,ls,sa,sc,pa,pc,h1,h2,h3⟩:=h;exact⟨h0,h,ls,sa,sc,pa,pc,h1.later hb,h2,h3⟩
theorem Nd.wd {S S':Nat→Prop} {w:World} {g n:Nat} {bl:List B8} {a b:Int} (h:Nd S w g n bl a b) (hw:Wd S S' w) (hg:S' g):Nd S' w g n bl a b:=by
 obtain⟨h0,h,ls,sa,sc,pa,pc,h1,h2,h3⟩:=h;exact⟨hg,h,ls,sa,sc,pa,pc,h1,h2,h3.ext h1.bl.2.ltA (fun b hb=>hw b hb)⟩
theorem Nd.ext {S T:Nat→Prop} {w w':World} {g n:Nat} {bl:List B8} {a b:Int} (h:Nd S w g n bl a b) (hx:Ex T w w') (hT:∀ b,T b→S b) (hg:¬T g):Nd S w' g n bl a b:=by
 obtain⟨h0,h,ls,sa,sc,pa,pc,h1,h2,h3⟩:=h;refine⟨h0,h,ls,sa,sc,pa,pc,{h1 with bx:=?_,bl:=?_,pl:=?_},h2,h3⟩
 ·exact Ex.bx hx h1.bx hg
 ·exact⟨h1.bl.1,h1.bl.2.ext hx (fun hn p hp ht=>h3 hn p hp (hT _ ht))⟩
 ·refine⟨h1.pl.1,h1.pl.2.ext hx (fun hn=>absurd hn (by omega))⟩
theorem StW.other {w w':World} {g n h x:Nat} {ls:List B8} {left:Int} {sa:Option Addr} {sc:Nat} {pa:Option Addr} {pc:Nat} {cs:Array Value} {t:TypeId} (hs:StW w g n h ls [] left sa sc pa 0 pc) (hx:Ex (fun b=>b=x) w w') (hb:Bx w x cs t) (hn:iV cs) (hne:g≠x):StW w' g n h ls [] left sa sc pa 0 pc:=by
 have hm:=(Mut.none w).add hb hn;refine {hs with bx:=Ex.bx hx hs.bx hne,bl:=⟨hs.bl.1,hs.bl.2.ext hx ?_⟩,pl:=⟨hs.pl.1,hs.pl.2.ext hx (fun hn=>absurd hn (by omega))⟩};intro h0 p hp hq;exact BL.Cx hs.bl hm (by unfold Mx.sz;omega) h0 p hp (.inr hq)
theorem nS {n h:Nat} {sa:Option Addr} {sn sc:Nat} {pa:Option Addr} {pn pc:Nat} {left:Int}:iV #[.int .i64 (n:Int),.int .i64 (h:Int),.slice sa sn sc,.slice pa pn pc,.int .i64 left]:=by
 intro j v
 match j with
 | 0 => simp
 | 1 => simp
 | 2 => simp
 | 3 => simp
 | 4 => simp
 | j + 5 => simp
theorem Nd.of {S:Nat→Prop} {w:World} {g n h:Nat} {ls bl:List B8} {a b:Int} {sa:Option Addr} {sc:Nat} {pa:Option Addr} {pc:Nat} (hs:StW w g n h ls [] (-1) sa sc pa 0 pc) (hd:Mx.Hd n h ls bl a b) (hm:Mut S w) (hg:S g):Nd S w g n bl a b :=
 ⟨hg,h,ls,sa,sc,pa,pc,hs,hd,BL.Cx hs.bl hm (by unfold Mx.sz;omega)⟩
def eH (S:Nat→Prop) (w w':World) (g n:Nat) (bl:List B8) (a b:Int):Prop:=w.heap.size≤g∧Mut (fun b=>S b∨b=g) w'∧Nd (fun b=>S b∨b=g) w' g n bl a b
theorem eH.of {S:Nat→Prop} {w w':World} {g n h:Nat} {ls bl:List B8} {a b:Int} {sa:Option Addr} {sc:Nat} {pa:Option Addr} {pc:Nat} (hg:w.heap.size≤g) (hs:StW w' g n h ls [] (-1) sa sc pa 0 pc) (hd:Mx.Hd n h ls bl a b) (hm:Mut S w) (hb:Gq w w'):eH S w w' g n bl a b:=by
 have h1:=(hm.later hb).add hs.bx nS;exact⟨hg,h1,Nd.of hs hd h1 (.inr rfl)⟩
theorem eH.low {S:Nat→Prop} {w v w':World} {g n:Nat} {bl:List B8} {a b:Int} (h:eH S v w' g n bl a b) (hw:w.heap.size≤v.heap.size):eH S w w' g n bl a b:=⟨Gn hw h.1,h.2⟩
theorem eH.later {S:Nat→Prop} {w w' w'':World} {g n:Nat} {bl:List B8} {a b:Int} (h:eH S w w' g n bl a b) (hb:Gq w' w''):eH S w w'' g n bl a b:=⟨h.1,h.2.1.later hb,h.2.2.later hb⟩
theorem Nd.box {S:Nat→Prop} {w w':World} {g n x:Nat} {bl:List B8} {a b:Int} {cs:Array Value} {t:TypeId} (h:Nd S w g n bl a b) (hx:Ex (fun b=>b=x) w w') (hb:Bx w x cs t) (hn:iV cs) (hne:g≠x):Nd S w' g n bl a b:=by
 obtain⟨h0,h,ls,sa,sc,pa,pc,h1,h2,h3⟩:=h;exact⟨h0,h,ls,sa,sc,pa,pc,h1.other hx hb hn hne,h2,h3⟩
theorem Mut.off {S:Nat→Prop} {w w':World} {x:Nat} (h:Mut S w) (hx:Ex (fun b=>b=x) w w') (hn:¬S x):Mut S w' :=
 ⟨fun b hs=>Gf (h.lt b hs) hx.size,fun b hs=>(h.no b hs).same fun _=>hx.cell (h.lt b hs) (fun e=>hn (e▸hs))⟩
theorem eH.box {S:Nat→Prop} {w w' w'':World} {g n x:Nat} {bl:List B8} {a b:Int} {cs:Array Value} {t:TypeId} (h:eH S w w' g n bl a b) (hx:Ex (fun b=>b=x) w' w'') (hb:Bx w' x cs t) (hn:iV cs) (hne:g≠x) (hs:¬S x):eH S w w'' g n bl a b :=
 ⟨h.1,h.2.1.off hx (fun e=>by rcases e with e|e;exact hs e;exact hne e.symm),h.2.2.box hx hb hn hne⟩
end
namespace Mx
def ej (x:Int) (m:Nat):Int:=(if x<0 then -(x+1) else x)%(m:Int)
theorem fY {x:Int} {m:Nat} (h:0<m):0≤ej x m∧ej x m<(m:Int):=⟨Int.emod_nonneg _ (by omega),Int.emod_lt_of_pos _ (by omega)⟩
end Mx
theorem kQ (x:Int) (m:Nat) (w:World) (h0:-9223372036854775808≤x) (h1:x≤9223372036854775807) (hm:0<m) (hm2:m≤1000000) :
 Calls Tryz.prog 50 #[.int .i64 x,.int .i64 (m:Int)] w fun e w'=>e=.returned (.int .i64 (Mx.ej x m))∧Hid (w'=w):=by
 have hm3:¬(m:Int)=0:=by omega
 by_cases hx:x<0
 ·have HE:=aa (show Mx.ej x m=(-(x+1))%(m:Int) by unfold Mx.ej;rw[if_pos hx])
  have HT:=aa (show -(Int.tmod (x+1) (m:Int))=(-(x+1))%(m:Int) by rw[←Int.neg_tmod];exact Int.tmod_eq_emod_of_nonneg (by omega));rw[HE.o];have hb1:0≤(-(x+1))%(m:Int):=Int.emod_nonneg _ hm3;have hb2:(-(x+1))%(m:Int)<(m:Int):=Int.emod_lt_of_pos _ (by omega);have hn1:0≤-(x+1):=by omega
  have hn2:-(x+1)≤9223372036854775807:=by omega
  go_enter Tryz.func50,Tryz.ntmps50;go_wp2_with fail;exact bodyPost_ret (v:=.int .i64 (-(Int.tmod (x+1) (m:Int)))) (by simp[results,Tryz.results50,go_sem]) rfl ⟨by rw[HT.o],aa rfl⟩
 ·have HE:=aa (show Mx.ej x m=x%(m:Int) by unfold Mx.ej;rw[if_neg hx])
  rw[HE.o];have hb1:0≤x%(m:Int):=Int.emod_nonneg _ hm3;have hb2:x%(m:Int)<(m:Int):=Int.emod_lt_of_pos _ (by omega);have hx0:0≤x:=by omega
  go_enter Tryz.func50,Tryz.ntmps50;go_wp2_with fail;exact bodyPost_ret (v:=.int .i64 (x%(m:Int))) (by simp[results,Tryz.results50,go_sem]) rfl ⟨rfl,aa rfl⟩
theorem AL (x:B8) (W:World):(Op.equalIn 10000 33 (.agg #[.int .u8 x.z0,.int .u8 x.z1,.int .u8 x.z2,.int .u8 x.z3,.int .u8 x.z4,.int .u8 x.z5,.int .u8 x.z6,.int .u8 x.z7]) (.agg #[.int .u8 0,.int .u8 0,.int .u8 0,.int .u8 0,.int .u8 0,.int .u8 0,.int .u8 0,.int .u8 0])).run Tryz.prog W=.ok (decide (x=zB)) W:=by
 have h:=eZ x.z0 x.z1 x.z2 x.z3 x.z4 x.z5 x.z6 x.z7 0 0 0 0 0 0 0 0 W;have e:decide ([x.z0,x.z1,x.z2,x.z3,x.z4,x.z5,x.z6,x.z7]=[(0:Int),0,0,0,0,0,0,0])=decide (x=zB):=decide_eq_decide.2 (B8.eq_list x zB);rw[e] at h;exact h
theorem tk (x:B8) (w:World) :
 Calls Tryz.prog 200 #[.agg #[],.agg #[.int .u8 x.z0,.int .u8 x.z1,.int .u8 x.z2,.int .u8 x.z3,.int .u8 x.z4,.int .u8 x.z5,.int .u8 x.z6,.int .u8 x.z7]] w fun e w'=>e=.returned (.tuple #[.agg #[.int .i64 0,.int .i64 0,.int .i64 0,.int .u8 0,.int .u8 0,.int .u8 0,.int .u8 0,.int .u8 0,.int .u8 0,.int .u8 0,.int .u8 0],.bool (decide (x=zB))])∧Gq w w':=by
 have heq:=AL x;obtain⟨r,hr⟩:∃ r:Bool,Hid (r=decide (x=zB)):=⟨_,rfl⟩
 rw[←hr.o] at heq ⊢;go_enter Tryz.func200,Tryz.ntmps200;go_wp2_with fail;go_region
 go_wp2_with fail;exact bodyPost_ret (v:=.tuple #[.agg #[.int .i64 0,.int .i64 0,.int .i64 0,.int .u8 0,.int .u8 0,.int .u8 0,.int .u8 0,.int .u8 0,.int .u8 0,.int .u8 0,.int .u8 0],.bool r]) (by simp[results,Tryz.results200,go_sem]) rfl ⟨rfl,(((af _ _).alloc (by simp) _).alloc (by simp;omega) _).drew⟩
theorem mw (a:Option Addr) (n c:Nat) (l:List B8) (x:B8) (w:World) (hl:BL w a n l) :
 Calls Tryz.prog 202 #[.slice a n c,.agg #[.int .u8 x.z0,.int .u8 x.z1,.int .u8 x.z2,.int .u8 x.z3,.int .u8 x.z4,.int .u8 x.z5,.int .u8 x.z6,.int .u8 x.z7]] w fun e w'=>e=.returned (.tuple #[.agg #[.int .i64 0,.int .i64 0,.int .i64 (Mx.eK l x),.int .u8 0,.int .u8 0,.int .u8 0,.int .u8 0,.int .u8 0,.int .u8 0,.int .u8 0,.int .u8 0],.bool (Mx.dd l x)])∧Gq w w':=by
 have HL:=aa hl;clear hl;obtain⟨w0,hw0⟩:∃ w0:World,Hid (w0=(w.alloc (.cells #[.int .u8 x.z0,.int .u8 x.z1,.int .u8 x.z2,.int .u8 x.z3,.int .u8 x.z4,.int .u8 x.z5,.int .u8 x.z6,.int .u8 x.z7] 33)).alloc (.cells #[.int .i64 0,.int .i64 0,.int .i64 0,.int .u8 0,.int .u8 0,.int .u8 0,.int .u8 0,.int .u8 0,.int .u8 0,.int .u8 0,.int .u8 0] 244)):=⟨_,rfl⟩
 have B0:=aa (show Gq w w0 by rw[hw0.o];exact(af _ _).alloc (by simp) _);have R0:=aa (show Bx w0 (w.heap.size+1) #[.int .i64 0,.int .i64 0,.int .i64 0,.int .u8 0,.int .u8 0,.int .u8 0,.int .u8 0,.int .u8 0,.int .u8 0,.int .u8 0,.int .u8 0] 244 by
  rw[hw0.o];have h:=Bx.new (w.alloc (.cells #[.int .u8 x.z0,.int .u8 x.z1,.int .u8 x.z2,.int .u8 x.z3,.int .u8 x.z4,.int .u8 x.z5,.int .u8 x.z6,.int .u8 x.z7] 33)) #[.int .i64 0,.int .i64 0,.int .i64 0,.int .u8 0,.int .u8 0,.int .u8 0,.int .u8 0,.int .u8 0,.int .u8 0,.int .u8 0,.int .u8 0] 244;rw[World.size_alloc] at h;exact h)
 go_enter Tryz.func202,Tryz.ntmps202;go_wp2_with fail;rw[←hw0.o];refine(AP a n c l x w0 (HL.o.later B0.o)).mono ?_;rintro e w1 ⟨rfl,hb1⟩;have R1:=aa (R0.o.later hb1 R0.o.lt);have B1:=aa (B0.o.trans (hb1.mono B0.o.size));clear hb1;obtain⟨F,hF⟩:∃ F:Int,Hid (F=Mx.eK l x):=⟨_,rfl⟩
 obtain⟨r,hr⟩:∃ r:Bool,Hid (r=Mx.dd l x):=⟨_,rfl⟩
 rw[←hF.o,←hr.o];have rz:=R1.o.frozen;obtain⟨q0,q1,q2,q3,q4,q5,q6,q7,q8,q9,q10⟩:=Bx.dS (p:=⟨0,0,0,zB⟩) R1.o;go_wp2_with fail;change bodyPost Tryz.prog Tryz.f202 _ _ _ (cr w1 (w.heap.size+1) ⟨0,0,F,zB⟩);have R2:=aa (eJ (q:=⟨0,0,0,zB⟩) R1.o ⟨0,0,F,zB⟩);have B2:=aa (bh B1.o (by omega:w.heap.size≤w.heap.size+1) ⟨0,0,F,zB⟩);obtain⟨w2,hw2⟩:∃ w2:World,Hid (w2=cr w1 (w.heap.size+1) ⟨0,0,F,zB⟩):=⟨_,rfl⟩
 rw[←hw2.o] at R2 B2 ⊢;obtain⟨s0,s1,s2,s3,s4,s5,s6,s7,s8,s9,s10⟩:=Bx.dS (p:=⟨0,0,F,zB⟩) R2.o;exact bodyPost_ret (v:=.tuple #[.agg #[.int .i64 0,.int .i64 0,.int .i64 F,.int .u8 0,.int .u8 0,.int .u8 0,.int .u8 0,.int .u8 0,.int .u8 0,.int .u8 0,.int .u8 0],.bool r]) (by simp[results,Tryz.results202,go_sem,s0,s1,s2,s3,s4,s5,s6,s7,s8,s9,s10,zB]) rfl ⟨by rw[hF.o,hr.o],B2.o⟩
theorem tj (x:B8) (w:World) :
 Calls Tryz.prog 205 #[.agg #[],.agg #[.int .u8 x.z0,.int .u8 x.z1,.int .u8 x.z2,.int .u8 x.z3,.int .u8 x.z4,.int .u8 x.z5,.int .u8 x.z6,.int .u8 x.z7]] w fun e w'=>e=.returned (.tuple #[.agg #[.int .i64 0,.int .i64 0,.int .i64 0,.int .u8 x.z0,.int .u8 x.z1,.int .u8 x.z2,.int .u8 x.z3,.int .u8 x.z4,.int .u8 x.z5,.int .u8 x.z6,.int .u8 x.z7],.bool true])∧Gq w w':=by
 go_enter Tryz.func205,Tryz.ntmps205;go_wp2_with fail;exact bodyPost_ret (v:=.tuple #[.agg #[.int .i64 0,.int .i64 0,.int .i64 0,.int .u8 x.z0,.int .u8 x.z1,.int .u8 x.z2,.int .u8 x.z3,.int .u8 x.z4,.int .u8 x.z5,.int .u8 x.z6,.int .u8 x.z7],.bool true]) (by simp[results,Tryz.results205,go_sem]) rfl ⟨rfl,((af _ _).alloc (by simp) _).alloc (by simp;omega) _⟩
theorem Cj (a ah:Option Addr) (n c nh ch:Nat) (W:World):(Instr.index 271 (.agg #[.iface 287 (.agg #[]),.iface 288 (.slice a n c),.iface 288 (.slice ah nh ch),.iface 289 (.agg #[])]) (.int .i64 0)).run Tryz.prog W=.ok (.iface 287 (.agg #[])) W:=by kernel_rfl
theorem Ck (a ah:Option Addr) (n c nh ch:Nat) (W:World):(Instr.index 271 (.agg #[.iface 287 (.agg #[]),.iface 288 (.slice a n c),.iface 288 (.slice ah nh ch),.iface 289 (.agg #[])]) (.int .i64 1)).run Tryz.prog W=.ok (.iface 288 (.slice a n c)) W:=by kernel_rfl
theorem Cl (a ah:Option Addr) (n c nh ch:Nat) (W:World):(Instr.index 271 (.agg #[.iface 287 (.agg #[]),.iface 288 (.slice a n c),.iface 288 (.slice ah nh ch),.iface 289 (.agg #[])]) (.int .i64 2)).run Tryz.prog W=.ok (.iface 288 (.slice ah nh ch)) W:=by kernel_rfl
theorem Cm (a ah:Option Addr) (n c nh ch:Nat) (W:World):(Instr.index 271 (.agg #[.iface 287 (.agg #[]),.iface 288 (.slice a n c),.iface 288 (.slice ah nh ch),.iface 289 (.agg #[])]) (.int .i64 3)).run Tryz.prog W=.ok (.iface 289 (.agg #[])) W:=by kernel_rfl
def Mx.dy (p:Pt) (peer had:List B8):Pk :=
 if p.d=zB then ⟨p.at_,0,0,zB⟩ else if Mx.dd peer p.d=true then ⟨p.at_,1,Mx.eK peer p.d,zB⟩ else if Mx.dd had p.d=true then ⟨p.at_,2,Mx.eK had p.d,zB⟩ else ⟨p.at_,3,0,p.d⟩
theorem nk {w:World} {g:Nat} {F:Int} {d:B8} {t:TypeId} (h:Bx w g (Pk.arr ⟨0,0,F,d⟩) t) (A K:Int):Bx (cr ((w.setCell ⟨g,0,none⟩ (.int .i64 A)).setCell ⟨g,1,none⟩ (.int .i64 K)) g ⟨A,K,F,d⟩) g (Pk.arr ⟨A,K,F,d⟩) t:=by
 have h2:=(h.set 0 (.int .i64 A)).set 1 (.int .i64 K);have e:((Pk.arr ⟨0,0,F,d⟩).setIfInBounds 0 (.int .i64 A)).setIfInBounds 1 (.int .i64 K)=Pk.arr ⟨A,K,F,d⟩:=by simp[Pk.arr]
 rw[e] at h2;exact eJ h2 _
theorem wN (a ah:Option Addr) (n c nh ch:Nat) (peer had:List B8) (p:Pt) (w:World) (hp:BL w a n peer) (hh:BL w ah nh had) :
 Calls Tryz.prog 155 #[.agg #[.iface 287 (.agg #[]),.iface 288 (.slice a n c),.iface 288 (.slice ah nh ch),.iface 289 (.agg #[])],.agg #[.int .i64 p.at_,.int .u8 p.d.z0,.int .u8 p.d.z1,.int .u8 p.d.z2,.int .u8 p.d.z3,.int .u8 p.d.z4,.int .u8 p.d.z5,.int .u8 p.d.z6,.int .u8 p.d.z7]] w fun e w'=>∃ q:Pk,q=Mx.dy p peer had∧e=.returned (.agg #[.int .i64 q.at_,.int .i64 q.kind,.int .i64 q.from_,.int .u8 q.d.z0,.int .u8 q.d.z1,.int .u8 q.d.z2,.int .u8 q.d.z3,.int .u8 q.d.z4,.int .u8 q.d.z5,.int .u8 q.d.z6,.int .u8 q.d.z7])∧Hid (Gq w w'):=by
 have HP:=aa hp;have HH:=aa hh;clear hp hh;obtain⟨w0,hw0⟩:∃ w0:World,Hid (w0=((w.alloc (.cells #[.iface 287 (.agg #[]),.iface 288 (.slice a n c),.iface 288 (.slice ah nh ch),.iface 289 (.agg #[])] 271)).alloc (.cells #[.int .i64 p.at_,.int .u8 p.d.z0,.int .u8 p.d.z1,.int .u8 p.d.z2,.int .u8 p.d.z3,.int .u8 p.d.z4,.int .u8 p.d.z5,.int .u8 p.d.z6,.int .u8 p.d.z7] 114)).alloc (.cells #[.int .i64 0,.int .i64 0,.int .i64 0,.int .u8 0,.int .u8 0,.int .u8 0,.int .u8 0,.int .u8 0,.int .u8 0,.int .u8 0,.int .u8 0] 244)):=⟨_,rfl⟩
 have B0:=aa (show Gq w w0 by rw[hw0.o];exact((af _ _).alloc (by simp) _).alloc (by simp;omega) _);have P0:=aa (show Bx w0 (w.heap.size+1) #[.int .i64 p.at_,.int .u8 p.d.z0,.int .u8 p.d.z1,.int .u8 p.d.z2,.int .u8 p.d.z3,.int .u8 p.d.z4,.int .u8 p.d.z5,.int .u8 p.d.z6,.int .u8 p.d.z7] 114 by
  rw[hw0.o];have h:=(Bx.new (w.alloc (.cells #[.iface 287 (.agg #[]),.iface 288 (.slice a n c),.iface 288 (.slice ah nh ch),.iface 289 (.agg #[])] 271)) #[.int .i64 p.at_,.int .u8 p.d.z0,.int .u8 p.d.z1,.int .u8 p.d.z2,.int .u8 p.d.z3,.int .u8 p.d.z4,.int .u8 p.d.z5,.int .u8 p.d.z6,.int .u8 p.d.z7] 114).alloc (.cells #[.int .i64 0,.int .i64 0,.int .i64 0,.int .u8 0,.int .u8 0,.int .u8 0,.int .u8 0,.int .u8 0,.int .u8 0,.int .u8 0,.int .u8 0] 244);rw[World.size_alloc] at h;exact h)
 have R0:=aa (show Bx w0 (w.heap.size+2) (Pk.arr ⟨0,0,0,zB⟩) 244 by
  rw[hw0.o];have h:=Bx.new ((w.alloc (.cells #[.iface 287 (.agg #[]),.iface 288 (.slice a n c),.iface 288 (.slice ah nh ch),.iface 289 (.agg #[])] 271)).alloc (.cells #[.int .i64 p.at_,.int .u8 p.d.z0,.int .u8 p.d.z1,.int .u8 p.d.z2,.int .u8 p.d.z3,.int .u8 p.d.z4,.int .u8 p.d.z5,.int .u8 p.d.z6,.int .u8 p.d.z7] 114)) #[.int .i64 0,.int .i64 0,.int .i64 0,.int .u8 0,.int .u8 0,.int .u8 0,.int .u8 0,.int .u8 0,.int .u8 0,.int .u8 0,.int .u8 0] 244;rw[World.size_alloc,World.size_alloc] at h;exact h)
 go_enter Tryz.func155,Tryz.ntmps155;go_wp2_with fail;rw[←hw0.o];go_loopw [9] (fun t wr=>∃ (k:Nat) (q:Pk),t=.int .i64 (k:Int)∧k≤3∧Hid (0<k→¬p.d=zB)∧Hid (1<k→¬Mx.dd peer p.d=true)∧Hid (2<k→¬Mx.dd had p.d=true)∧Hid (Bx wr (w.heap.size+1) #[.int .i64 p.at_,.int .u8 p.d.z0,.int .u8 p.d.z1,.int .u8 p.d.z2,.int .u8 p.d.z3,.int .u8 p.d.z4,.int .u8 p.d.z5,.int .u8 p.d.z6,.int .u8 p.d.z7] 114)∧Hid (Bx wr (w.heap.size+2) q.arr 244)∧Hid (Gq w wr)) (fun t _=>4-(intOf t).toNat)
 case atStart=>exact⟨0,_,rfl,by omega,fun h=>absurd h (by omega),fun h=>absurd h (by omega),fun h=>absurd h (by omega),P0,R0,B0⟩
 case round =>
  obtain⟨k,q,rfl,hk,h0,h1,h2,hX,hR,hB⟩:=hrel;obtain⟨p0,p1,p2,p3,p4,p5,p6,p7,p8⟩:=(show wr.cell? ⟨w.heap.size+1,0,none⟩=some (.int .i64 p.at_)∧wr.cell? ⟨w.heap.size+1,1,none⟩=some (.int .u8 p.d.z0)∧wr.cell? ⟨w.heap.size+1,2,none⟩=some (.int .u8 p.d.z1)∧wr.cell? ⟨w.heap.size+1,3,none⟩=some (.int .u8 p.d.z2)∧wr.cell? ⟨w.heap.size+1,4,none⟩=some (.int .u8 p.d.z3)∧wr.cell? ⟨w.heap.size+1,5,none⟩=some (.int .u8 p.d.z4)∧wr.cell? ⟨w.heap.size+1,6,none⟩=some (.int .u8 p.d.z5)∧wr.cell? ⟨w.heap.size+1,7,none⟩=some (.int .u8 p.d.z6)∧wr.cell? ⟨w.heap.size+1,8,none⟩=some (.int .u8 p.d.z7) from⟨hX.o.cell 0,hX.o.cell 1,hX.o.cell 2,hX.o.cell 3,hX.o.cell 4,hX.o.cell 5,hX.o.cell 6,hX.o.cell 7,hX.o.cell 8⟩)
  have ix0:=Cj a ah n c nh ch;have ix1:=Ck a ah n c nh ch;have ix2:=Cl a ah n c nh ch;have ix3:=Cm a ah n c nh ch;have hm0 : ∀ W : World, (method 426 287 (.agg #[]) "stillwater/plan.tell").run Tryz.prog W = .ok (200, .agg #[]) W := fun _ => by kernel_rfl
  have hm1 : ∀ (a : Option Addr) (n c : Nat) (W : World), (method 426 288 (.slice a n c) "stillwater/plan.tell").run Tryz.prog W = .ok (202, .slice a n c) W := fun _ _ _ _ => by kernel_rfl
  have hm3 : ∀ W : World, (method 426 289 (.agg #[]) "stillwater/plan.tell").run Tryz.prog W = .ok (205, .agg #[]) W := fun _ => by kernel_rfl
  rcases(show k=0∨k=1∨k=2∨k=3 by omega) with rfl|rfl|rfl|rfl
  ·go_wp2_with fail
   refine(tk p.d wr).mono ?_;rintro e w1 ⟨rfl,hb1⟩;have X1:=aa (hX.o.later hb1 hX.o.lt);have R1:=aa (hR.o.later hb1 hR.o.lt);have B1:=aa (hB.o.trans (hb1.mono hB.o.size));clear hb1 p0 p1 p2 p3 p4 p5 p6 p7 p8;have x0:=X1.o.cell 0;have rz:=R1.o.frozen;obtain⟨q0,q1,q2,q3,q4,q5,q6,q7,q8,q9,q10⟩:=Bx.dS R1.o;by_cases hz:p.d=zB
   ·rw[show decide (p.d=zB)=true from decide_eq_true hz]
    have hZ:=aa hz;clear hz;dsimp only
    iterate 12 (first|go_step|skip)
    obtain⟨w2,hw2⟩:∃ w2:World,Hid (w2=cr w1 (w.heap.size+1+1) ⟨0,0,0,zB⟩):=⟨_,rfl⟩
    have X2:=aa (X1.o.later (bh (Below.refl (w.heap.size+2) w1) (Gi _) ⟨0,0,0,zB⟩) (by omega));have R2:=aa (eJ R1.o ⟨0,0,0,zB⟩);have B2:=aa (bh B1.o (by omega:w.heap.size≤w.heap.size+2) ⟨0,0,0,zB⟩);have hw2':=hw2.o;rw[←hw2'] at X2 R2 B2;dsimp only[cr,zB] at hw2';rw[←hw2'];clear hw2' x0 rz q0 q1 q2 q3 q4 q5 q6 q7 q8 q9 q10 R1 X1 B1;have x0:w2.cell? ⟨w.heap.size+1,0,none⟩=some (.int .i64 p.at_):=X2.o.cell 0;have rz:=R2.o.frozen;obtain⟨q0,q1,q2,q3,q4,q5,q6,q7,q8,q9,q10⟩:=Bx.dS R2.o;go_wp2_with fail;change bodyPost Tryz.prog Tryz.f155 _ _ _ (cr ((w2.setCell ⟨w.heap.size+2,0,none⟩ (.int .i64 p.at_)).setCell ⟨w.heap.size+2,1,none⟩ (.int .i64 0)) (w.heap.size+2) ⟨p.at_,0,0,zB⟩);have R3:=aa (nk R2.o p.at_ 0);have B3:=aa (bh ((B2.o.setCell (p:=⟨w.heap.size+2,0,none⟩) (by simp) (.int .i64 p.at_)).setCell (p:=⟨w.heap.size+2,1,none⟩) (by simp) (.int .i64 0)) (by omega:w.heap.size≤w.heap.size+2) ⟨p.at_,0,0,zB⟩);obtain⟨w3,hw3⟩:∃ w3:World,Hid (w3=cr ((w2.setCell ⟨w.heap.size+2,0,none⟩ (.int .i64 p.at_)).setCell ⟨w.heap.size+2,1,none⟩ (.int .i64 0)) (w.heap.size+2) ⟨p.at_,0,0,zB⟩):=⟨_,rfl⟩
    rw[←hw3.o] at R3 B3 ⊢;obtain⟨s0,s1,s2,s3,s4,s5,s6,s7,s8,s9,s10⟩:=Bx.dS R3.o;have hpk:Mx.dy p peer had=⟨p.at_,0,0,zB⟩:=by rw[Mx.dy,if_pos hZ.o]
    exact bodyPost_ret (v:=.agg #[.int .i64 p.at_,.int .i64 0,.int .i64 0,.int .u8 zB.z0,.int .u8 zB.z1,.int .u8 zB.z2,.int .u8 zB.z3,.int .u8 zB.z4,.int .u8 zB.z5,.int .u8 zB.z6,.int .u8 zB.z7]) (by simp[results,Tryz.results155,go_sem,s0,s1,s2,s3,s4,s5,s6,s7,s8,s9,s10]) rfl ⟨by rw[hpk],B3⟩
   ·rw[show decide (p.d=zB)=false from decide_eq_false hz]
    have hZ:=aa hz;clear hz;dsimp only
    iterate 12 (first|go_step|skip)
    obtain⟨w2,hw2⟩:∃ w2:World,Hid (w2=cr w1 (w.heap.size+1+1) ⟨0,0,0,zB⟩):=⟨_,rfl⟩
    have X2:=aa (X1.o.later (bh (Below.refl (w.heap.size+2) w1) (Gi _) ⟨0,0,0,zB⟩) (by omega));have R2:=aa (eJ R1.o ⟨0,0,0,zB⟩);have B2:=aa (bh B1.o (by omega:w.heap.size≤w.heap.size+2) ⟨0,0,0,zB⟩);have hw2':=hw2.o;rw[←hw2'] at X2 R2 B2;dsimp only[cr,zB] at hw2';rw[←hw2'];clear hw2' x0 rz q0 q1 q2 q3 q4 q5 q6 q7 q8 q9 q10 R1 X1 B1;go_wp2_with fail;go_roundw
    case rel=>exact⟨1,_,by go_num,by omega,aa (fun _=>hZ.o),aa (fun h=>absurd h (by omega)),aa (fun h=>absurd h (by omega)),X2,R2,B2⟩
    case measure=>simp[intOf]
  ·go_wp2_with fail
   refine(mw a n c peer p.d wr (HP.o.later hB.o)).mono ?_;rintro e w1 ⟨rfl,hb1⟩;have X1:=aa (hX.o.later hb1 hX.o.lt);have R1:=aa (hR.o.later hb1 hR.o.lt);have B1:=aa (hB.o.trans (hb1.mono hB.o.size));clear hb1 p0 p1 p2 p3 p4 p5 p6 p7 p8;have x0:=X1.o.cell 0;have rz:=R1.o.frozen;obtain⟨q0,q1,q2,q3,q4,q5,q6,q7,q8,q9,q10⟩:=Bx.dS R1.o;obtain⟨F,hF⟩:∃ F:Int,Hid (F=Mx.eK peer p.d):=⟨_,rfl⟩
   rw[←hF.o];by_cases hz:Mx.dd peer p.d=true
   ·rw[hz]
    have hZ:=aa hz;clear hz;dsimp only
    iterate 12 (first|go_step|skip)
    obtain⟨w2,hw2⟩:∃ w2:World,Hid (w2=cr w1 (w.heap.size+1+1) ⟨0,0,F,zB⟩):=⟨_,rfl⟩
    have X2:=aa (X1.o.later (bh (Below.refl (w.heap.size+2) w1) (Gi _) ⟨0,0,F,zB⟩) (by omega));have R2:=aa (eJ R1.o ⟨0,0,F,zB⟩);have B2:=aa (bh B1.o (by omega:w.heap.size≤w.heap.size+2) ⟨0,0,F,zB⟩);have hw2':=hw2.o;rw[←hw2'] at X2 R2 B2;dsimp only[cr,zB] at hw2';rw[←hw2'];clear hw2' x0 rz q0 q1 q2 q3 q4 q5 q6 q7 q8 q9 q10 R1 X1 B1;have x0:w2.cell? ⟨w.heap.size+1,0,none⟩=some (.int .i64 p.at_):=X2.o.cell 0;have rz:=R2.o.frozen;obtain⟨q0,q1,q2,q3,q4,q5,q6,q7,q8,q9,q10⟩:=Bx.dS R2.o;go_wp2_with fail;change bodyPost Tryz.prog Tryz.f155 _ _ _ (cr ((w2.setCell ⟨w.heap.size+2,0,none⟩ (.int .i64 p.at_)).setCell ⟨w.heap.size+2,1,none⟩ (.int .i64 1)) (w.heap.size+2) ⟨p.at_,1,F,zB⟩);have R3:=aa (nk R2.o p.at_ 1);have B3:=aa (bh ((B2.o.setCell (p:=⟨w.heap.size+2,0,none⟩) (by simp) (.int .i64 p.at_)).setCell (p:=⟨w.heap.size+2,1,none⟩) (by simp) (.int .i64 1)) (by omega:w.heap.size≤w.heap.size+2) ⟨p.at_,1,F,zB⟩);obtain⟨w3,hw3⟩:∃ w3:World,Hid (w3=cr ((w2.setCell ⟨w.heap.size+2,0,none⟩ (.int .i64 p.at_)).setCell ⟨w.heap.size+2,1,none⟩ (.int .i64 1)) (w.heap.size+2) ⟨p.at_,1,F,zB⟩):=⟨_,rfl⟩
    rw[←hw3.o] at R3 B3 ⊢;obtain⟨s0,s1,s2,s3,s4,s5,s6,s7,s8,s9,s10⟩:=Bx.dS R3.o;have hpk:Mx.dy p peer had=⟨p.at_,1,F,zB⟩:=by rw[Mx.dy,if_neg (h0.o (by omega)),if_pos hZ.o,hF.o]
    exact bodyPost_ret (v:=.agg #[.int .i64 p.at_,.int .i64 1,.int .i64 F,.int .u8 zB.z0,.int .u8 zB.z1,.int .u8 zB.z2,.int .u8 zB.z3,.int .u8 zB.z4,.int .u8 zB.z5,.int .u8 zB.z6,.int .u8 zB.z7]) (by simp[results,Tryz.results155,go_sem,s0,s1,s2,s3,s4,s5,s6,s7,s8,s9,s10]) rfl ⟨by rw[hpk],B3⟩
   ·rw[show Mx.dd peer p.d=false from Bool.eq_false_iff.mpr hz]
    have hZ:=aa hz;clear hz;dsimp only
    iterate 12 (first|go_step|skip)
    obtain⟨w2,hw2⟩:∃ w2:World,Hid (w2=cr w1 (w.heap.size+1+1) ⟨0,0,F,zB⟩):=⟨_,rfl⟩
    have X2:=aa (X1.o.later (bh (Below.refl (w.heap.size+2) w1) (Gi _) ⟨0,0,F,zB⟩) (by omega));have R2:=aa (eJ R1.o ⟨0,0,F,zB⟩);have B2:=aa (bh B1.o (by omega:w.heap.size≤w.heap.size+2) ⟨0,0,F,zB⟩);have hw2':=hw2.o;rw[←hw2'] at X2 R2 B2;dsimp only[cr,zB] at hw2';rw[←hw2'];clear hw2' x0 rz q0 q1 q2 q3 q4 q5 q6 q7 q8 q9 q10 R1 X1 B1;go_wp2_with fail;go_roundw
    case rel=>exact⟨2,_,by go_num,by omega,aa (fun _=>h0.o (by omega)),aa (fun _=>hZ.o),aa (fun h=>absurd h (by omega)),X2,R2,B2⟩
    case measure=>simp[intOf]
  ·go_wp2_with fail
   refine(mw ah nh ch had p.d wr (HH.o.later hB.o)).mono ?_;rintro e w1 ⟨rfl,hb1⟩;have X1:=aa (hX.o.later hb1 hX.o.lt);have R1:=aa (hR.o.later hb1 hR.o.lt);have B1:=aa (hB.o.trans (hb1.mono hB.o.size));clear hb1 p0 p1 p2 p3 p4 p5 p6 p7 p8;have x0:=X1.o.cell 0;have rz:=R1.o.frozen;obtain⟨q0,q1,q2,q3,q4,q5,q6,q7,q8,q9,q10⟩:=Bx.dS R1.o;obtain⟨F,hF⟩:∃ F:Int,Hid (F=Mx.eK had p.d):=⟨_,rfl⟩
   rw[←hF.o];by_cases hz:Mx.dd had p.d=true
   ·rw[hz]
    have hZ:=aa hz;clear hz;dsimp only
    iterate 12 (first|go_step|skip)
    obtain⟨w2,hw2⟩:∃ w2:World,Hid (w2=cr w1 (w.heap.size+1+1) ⟨0,0,F,zB⟩):=⟨_,rfl⟩
    have X2:=aa (X1.o.later (bh (Below.refl (w.heap.size+2) w1) (Gi _) ⟨0,0,F,zB⟩) (by omega));have R2:=aa (eJ R1.o ⟨0,0,F,zB⟩);have B2:=aa (bh B1.o (by omega:w.heap.size≤w.heap.size+2) ⟨0,0,F,zB⟩);have hw2':=hw2.o;rw[←hw2'] at X2 R2 B2;dsimp only[cr,zB] at hw2';rw[←hw2'];clear hw2' x0 rz q0 q1 q2 q3 q4 q5 q6 q7 q8 q9 q10 R1 X1 B1;have x0:w2.cell? ⟨w.heap.size+1,0,none⟩=some (.int .i64 p.at_):=X2.o.cell 0;have rz:=R2.o.frozen;obtain⟨q0,q1,q2,q3,q4,q5,q6,q7,q8,q9,q10⟩:=Bx.dS R2.o;go_wp2_with fail;change bodyPost Tryz.prog Tryz.f155 _ _ _ (cr ((w2.setCell ⟨w.heap.size+2,0,none⟩ (.int .i64 p.at_)).setCell ⟨w.heap.size+2,1,none⟩ (.int .i64 2)) (w.heap.size+2) ⟨p.at_,2,F,zB⟩);have R3:=aa (nk R2.o p.at_ 2);have B3:=aa (bh ((B2.o.setCell (p:=⟨w.heap.size+2,0,none⟩) (by simp) (.int .i64 p.at_)).setCell (p:=⟨w.heap.size+2,1,none⟩) (by simp) (.int .i64 2)) (by omega:w.heap.size≤w.heap.size+2) ⟨p.at_,2,F,zB⟩);obtain⟨w3,hw3⟩:∃ w3:World,Hid (w3=cr ((w2.setCell ⟨w.heap.size+2,0,none⟩ (.int .i64 p.at_)).setCell ⟨w.heap.size+2,1,none⟩ (.int .i64 2)) (w.heap.size+2) ⟨p.at_,2,F,zB⟩):=⟨_,rfl⟩
    rw[←hw3.o] at R3 B3 ⊢;obtain⟨s0,s1,s2,s3,s4,s5,s6,s7,s8,s9,s10⟩:=Bx.dS R3.o;have hpk:Mx.dy p peer had=⟨p.at_,2,F,zB⟩:=by rw[Mx.dy,if_neg (h0.o (by omega)),if_neg (h1.o (by omega)),if_pos hZ.o,hF.o]
    exact bodyPost_ret (v:=.agg #[.int .i64 p.at_,.int .i64 2,.int .i64 F,.int .u8 zB.z0,.int .u8 zB.z1,.int .u8 zB.z2,.int .u8 zB.z3,.int .u8 zB.z4,.int .u8 zB.z5,.int .u8 zB.z6,.int .u8 zB.z7]) (by simp[results,Tryz.results155,go_sem,s0,s1,s2,s3,s4,s5,s6,s7,s8,s9,s10]) rfl ⟨by rw[hpk],B3⟩
   ·rw[show Mx.dd had p.d=false from Bool.eq_false_iff.mpr hz]
    have hZ:=aa hz;clear hz;dsimp only
    iterate 12 (first|go_step|skip)
    obtain⟨w2,hw2⟩:∃ w2:World,Hid (w2=cr w1 (w.heap.size+1+1) ⟨0,0,F,zB⟩):=⟨_,rfl⟩
    have X2:=aa (X1.o.later (bh (Below.refl (w.heap.size+2) w1) (Gi _) ⟨0,0,F,zB⟩) (by omega));have R2:=aa (eJ R1.o ⟨0,0,F,zB⟩);have B2:=aa (bh B1.o (by omega:w.heap.size≤w.heap.size+2) ⟨0,0,F,zB⟩);have hw2':=hw2.o;rw[←hw2'] at X2 R2 B2;dsimp only[cr,zB] at hw2';rw[←hw2'];clear hw2' x0 rz q0 q1 q2 q3 q4 q5 q6 q7 q8 q9 q10 R1 X1 B1;go_wp2_with fail;go_roundw
    case rel=>exact⟨3,_,by go_num,by omega,aa (fun _=>h0.o (by omega)),aa (fun _=>h1.o (by omega)),aa (fun _=>hZ.o),X2,R2,B2⟩
    case measure=>simp[intOf]
  ·go_wp2_with fail
   refine(tj p.d wr).mono ?_;rintro e w1 ⟨rfl,hb1⟩;have X1:=aa (hX.o.later hb1 hX.o.lt);have R1:=aa (hR.o.later hb1 hR.o.lt);have B1:=aa (hB.o.trans (hb1.mono hB.o.size));clear hb1 p0 p1 p2 p3 p4 p5 p6 p7 p8;have x0:=X1.o.cell 0;have rz:=R1.o.frozen;obtain⟨q0,q1,q2,q3,q4,q5,q6,q7,q8,q9,q10⟩:=Bx.dS R1.o;dsimp only
   iterate 12 (first|go_step|skip)
   obtain⟨w2,hw2⟩:∃ w2:World,Hid (w2=cr w1 (w.heap.size+1+1) ⟨0,0,0,p.d⟩):=⟨_,rfl⟩
   have X2:=aa (X1.o.later (bh (Below.refl (w.heap.size+2) w1) (Gi _) ⟨0,0,0,p.d⟩) (by omega));have R2:=aa (eJ R1.o ⟨0,0,0,p.d⟩);have B2:=aa (bh B1.o (by omega:w.heap.size≤w.heap.size+2) ⟨0,0,0,p.d⟩);have hw2':=hw2.o;rw[←hw2'] at X2 R2 B2;dsimp only[cr,zB] at hw2';rw[←hw2'];clear hw2' x0 rz q0 q1 q2 q3 q4 q5 q6 q7 q8 q9 q10 R1 X1 B1;have x0:w2.cell? ⟨w.heap.size+1,0,none⟩=some (.int .i64 p.at_):=X2.o.cell 0;have rz:=R2.o.frozen;obtain⟨q0,q1,q2,q3,q4,q5,q6,q7,q8,q9,q10⟩:=Bx.dS R2.o;go_wp2_with fail;change bodyPost Tryz.prog Tryz.f155 _ _ _ (cr ((w2.setCell ⟨w.heap.size+2,0,none⟩ (.int .i64 p.at_)).setCell ⟨w.heap.size+2,1,none⟩ (.int .i64 3)) (w.heap.size+2) ⟨p.at_,3,0,p.d⟩);have R3:=aa (nk R2.o p.at_ 3);have B3:=aa (bh ((B2.o.setCell (p:=⟨w.heap.size+2,0,none⟩) (by simp) (.int .i64 p.at_)).setCell (p:=⟨w.heap.size+2,1,none⟩) (by simp) (.int .i64 3)) (by omega:w.heap.size≤w.heap.size+2) ⟨p.at_,3,0,p.d⟩);obtain⟨w3,hw3⟩:∃ w3:World,Hid (w3=cr ((w2.setCell ⟨w.heap.size+2,0,none⟩ (.int .i64 p.at_)).setCell ⟨w.heap.size+2,1,none⟩ (.int .i64 3)) (w.heap.size+2) ⟨p.at_,3,0,p.d⟩):=⟨_,rfl⟩
   rw[←hw3.o] at R3 B3 ⊢;obtain⟨s0,s1,s2,s3,s4,s5,s6,s7,s8,s9,s10⟩:=Bx.dS R3.o;have hpk:Mx.dy p peer had=⟨p.at_,3,0,p.d⟩:=by rw[Mx.dy,if_neg (h0.o (by omega)),if_neg (h1.o (by omega)),if_neg (h2.o (by omega))]
   exact bodyPost_ret (v:=.agg #[.int .i64 p.at_,.int .i64 3,.int .i64 0,.int .u8 p.d.z0,.int .u8 p.d.z1,.int .u8 p.d.z2,.int .u8 p.d.z3,.int .u8 p.d.z4,.int .u8 p.d.z5,.int .u8 p.d.z6,.int .u8 p.d.z7]) (by simp[results,Tryz.results155,go_sem,s0,s1,s2,s3,s4,s5,s6,s7,s8,s9,s10]) rfl ⟨by rw[hpk],B3⟩
theorem oA (a ah:Option Addr) (n c nh ch:Nat) (w:World) :
 Calls Tryz.prog 154 #[.slice a n c,.slice ah nh ch] w fun e w'=>e=.returned (.agg #[.iface 287 (.agg #[]),.iface 288 (.slice a n c),.iface 288 (.slice ah nh ch),.iface 289 (.agg #[])])∧Gq w w':=by
 go_enter Tryz.func154,Tryz.ntmps154;go_wp2_with fail;exact bodyPost_ret (v:=.agg #[.iface 287 (.agg #[]),.iface 288 (.slice a n c),.iface 288 (.slice ah nh ch),.iface 289 (.agg #[])]) (by simp[results,Tryz.results154,go_sem]) rfl ⟨rfl,af _ _⟩
def Mx.kH (peer had:List B8) (p:Pt):List Pk:=if peer[p.at_.toNat]?=some p.d then [] else [Mx.dy p peer had]
def Mx.pks (peer had:List B8) (ps:List Pt):List Pk:=ps.flatMap (Mx.kH peer had)
theorem Mx.sH {peer had:List B8} {ps:List Pt} {k:Nat} {p:Pt} (h:ps[k]?=some p):Mx.pks peer had (ps.take (k+1))=Mx.pks peer had (ps.take k)++Mx.kH peer had p:=by
 rw[List.take_add_one,h,Mx.pks,List.flatMap_append];simp[Mx.pks]
theorem Mx.uX (peer had:List B8):∀ ps:List Pt,(Mx.pks peer had ps).length≤ps.length
 | [] => by simp [Mx.pks]
 | p :: ps => by
  have h:=Mx.uX peer had ps;have e:Mx.pks peer had (p::ps)=Mx.kH peer had p++Mx.pks peer had ps:=by simp[Mx.pks]
  rw[e,Ge,List.length_cons];have:(Mx.kH peer had p).length≤1:=by unfold Mx.kH;split<;>simp
  omega
theorem tT (ap a ah:Option Addr) (m cm n c nh ch:Nat) (ps:List Pt) (peer had:List B8) (w:World) (hp:PL w ap m ps) (hq:BL w a n peer) (hh:BL w ah nh had) (hc:nh≤ch) (hn:n≤1000) (hm:m≤1000) (h0:Mx.gD n had=0) (hE:Mx.fP n ps=0) :
 Calls Tryz.prog 136 #[.slice ap m cm,.slice a n c,.slice ah nh ch] w fun e w'=>∃ a' c',e=.returned (.tuple #[.slice a' (Mx.pks peer had ps).length c',.nilIface])∧Hid (cL w' w.heap.size (.slice a' (Mx.pks peer had ps).length c') (Mx.pks peer had ps))∧Hid (Gq w w'):=by
 have HH:=aa hh;have HP:=aa hp;have HQ:=aa hq;have H0:=aa (show bt (Mx.gD n had)=.nilIface by rw[h0];rfl);have HR:=aa (show Mx.bB n ps=true by unfold Mx.fP at hE;by_cases h:Mx.bB n ps=true;exact h;rw[if_neg h] at hE;exact absurd hE (by omega));have H1:=aa (show bt (Mx.fP n ps)=.nilIface by rw[hE];rfl);clear hh hp hq hE h0;go_enter Tryz.func136,Tryz.ntmps136;go_wp2_with fail;refine(kT a ah n c nh ch had w HH.o hc).mono ?_;rintro e w1 ⟨rfl,hb1⟩;rw[H0.o];have B1:=aa hb1;clear hb1;go_wp2_with fail;refine(qG ap m cm ps n w1 (HP.o.later B1.o) hn).mono ?_;rintro e w2 ⟨rfl,hb2⟩;rw[H1.o];have B2:=aa (B1.o.trans (hb2.mono B1.o.size));clear hb2;go_wp2_with fail;refine(oA a ah n c nh ch w2).mono ?_;rintro e w3 ⟨rfl,hb3⟩;have B3:=aa (B2.o.trans (hb3.mono B2.o.size));clear hb3;go_wp2_with fail;have K0:=aa (Bx.new w3 #[.iface 287 (.agg #[]),.iface 288 (.slice a n c),.iface 288 (.slice ah nh ch),.iface 289 (.agg #[])] 271);have B4:=aa (B3.o.alloc B3.o.size (.cells #[.iface 287 (.agg #[]),.iface 288 (.slice a n c),.iface 288 (.slice ah nh ch),.iface 289 (.agg #[])] 271));obtain⟨w4,hw4⟩:∃ w4:World,Hid (w4=w3.alloc (.cells #[.iface 287 (.agg #[]),.iface 288 (.slice a n c),.iface 288 (.slice ah nh ch),.iface 289 (.agg #[])] 271)):=⟨_,rfl⟩
 rw[←hw4.o] at K0 B4 ⊢;go_loopw [10,32] (fun v t wr=>∃ (k r:Nat) (a':Option Addr) (c':Nat),k≤m∧t=.int .i64 (k:Int)∧v=.slice a' r c'∧Hid (r=(Mx.pks peer had (ps.take k)).length)∧Hid (cL wr (w3.heap.size+1) (.slice a' r c') (Mx.pks peer had (ps.take k)))∧Hid (Bx wr w3.heap.size #[.iface 287 (.agg #[]),.iface 288 (.slice a n c),.iface 288 (.slice ah nh ch),.iface 289 (.agg #[])] 271)∧Hid (Gq w wr)) (fun _ t _=>m-(intOf t).toNat)
 case atStart=>exact⟨0,0,none,0,by omega,rfl,rfl,aa (by simp[Mx.pks]),cL.nil _ _,K0,B4⟩
 case round =>
  obtain⟨k,r,a',c',hk,rfl,rfl,hr,hO,hX,hB⟩:=hrel;by_cases hlt:k<m
  ·obtain⟨b,off,p,rfl,hb,hp,e0,e1,e2,e3,e4,e5,e6,e7,e8⟩:=(HP.o.later hB.o).at_ k hlt
   have hr0:0≤Mx.ct ps k:=by
    rcases Mx.xl HR.o (k:=k) with h|h
    ·exact Mx.jS h
    ·have:=HP.o.1;omega
   obtain⟨ha0,ha1⟩:=Mx.kL HR.o hp;obtain⟨j,hj⟩:∃ j:Nat,p.at_=j:=⟨p.at_.toNat,by omega⟩
   have hjn:j<n:=by omega
   have HJ:=aa hj;have HK:=aa hp;rw[hj] at e0;clear ha0 ha1 hr0 hj hp;obtain⟨bq,oq,y,rfl,hbq,hy,y0,y1,y2,y3,y4,y5,y6,y7⟩:=(HQ.o.later hB.o).at_ j hjn;have HY:=aa hy;clear hy;have heq:=eZ y.z0 y.z1 y.z2 y.z3 y.z4 y.z5 y.z6 y.z7 p.d.z0 p.d.z1 p.d.z2 p.d.z3 p.d.z4 p.d.z5 p.d.z6 p.d.z7;obtain⟨x0,x1,x2,x3⟩:=(show wr.cell? ⟨w3.heap.size,0,none⟩=some (.iface 287 (.agg #[]))∧wr.cell? ⟨w3.heap.size,1,none⟩=some (.iface 288 (.slice (some ⟨bq,oq,none⟩) n c))∧wr.cell? ⟨w3.heap.size,2,none⟩=some (.iface 288 (.slice ah nh ch))∧wr.cell? ⟨w3.heap.size,3,none⟩=some (.iface 289 (.agg #[])) from⟨hX.o.cell 0,hX.o.cell 1,hX.o.cell 2,hX.o.cell 3⟩)
   have hx3:=hX.o.lt;by_cases hcc:[y.z0,y.z1,y.z2,y.z3,y.z4,y.z5,y.z6,y.z7]=[p.d.z0,p.d.z1,p.d.z2,p.d.z3,p.d.z4,p.d.z5,p.d.z6,p.d.z7]
   ·have HC:=aa ((B8.eq_list y p.d).1 hcc)
    rw[decide_eq_true hcc] at heq;clear hcc;have HE:=aa (show Mx.pks peer had (ps.take (k+1))=Mx.pks peer had (ps.take k) by rw[Mx.sH HK.o,Mx.kH,if_pos (by rw[HJ.o,Int.toNat_natCast,HY.o,HC.o]),List.append_nil]);go_wp2_with fail;go_quiet (fail)
    go_wp2_with fail;have b5:=aa (below_drewN (af wr (.cells #[.int .i64 (j:Int),.int .u8 p.d.z0,.int .u8 p.d.z1,.int .u8 p.d.z2,.int .u8 p.d.z3,.int .u8 p.d.z4,.int .u8 p.d.z5,.int .u8 p.d.z6,.int .u8 p.d.z7] 114)) nq);obtain⟨w5,hw5⟩:∃ w5:World,Hid (w5=(wr.alloc (.cells #[.int .i64 (j:Int),.int .u8 p.d.z0,.int .u8 p.d.z1,.int .u8 p.d.z2,.int .u8 p.d.z3,.int .u8 p.d.z4,.int .u8 p.d.z5,.int .u8 p.d.z6,.int .u8 p.d.z7] 114)).drewN nq):=⟨_,rfl⟩
    rw[←hw5.o] at b5 ⊢;have X5:=aa (hX.o.later b5.o hX.o.lt);have O5:=aa (show cL w5 (w3.heap.size+1) _ (Mx.pks peer had (ps.take k)) from bm hO.o b5.o);have B5:=aa (hB.o.trans (b5.o.mono hB.o.size));go_roundw
    case rel=>exact⟨k+1,r,a',c',by omega,by go_num,rfl,by rw[HE.o];exact hr,by rw[HE.o];exact O5,X5,B5⟩
    case measure=>simp[intOf];omega
   ·have HC:=aa (fun e=>hcc ((B8.eq_list y p.d).2 e))
    rw[decide_eq_false hcc] at heq;clear hcc;have HE:=aa (show Mx.pks peer had (ps.take (k+1))=Mx.pks peer had (ps.take k)++[Mx.dy ⟨(j:Int),p.d⟩ peer had] by rw[Mx.sH HK.o,Mx.kH,if_neg (by rw[HJ.o,Int.toNat_natCast,HY.o];exact fun e=>HC.o (Gg e)),←HJ.o]);have HL:=aa (show(Mx.pks peer had (ps.take k)).length≤1000 by have h1:=Mx.uX peer had (ps.take k);rw[Gk] at h1;omega);go_wp2_with fail;go_quiet (fail)
    go_wp2_with fail;have b5:=aa (below_drewN (af wr (.cells #[.int .i64 (j:Int),.int .u8 p.d.z0,.int .u8 p.d.z1,.int .u8 p.d.z2,.int .u8 p.d.z3,.int .u8 p.d.z4,.int .u8 p.d.z5,.int .u8 p.d.z6,.int .u8 p.d.z7] 114)) nq);obtain⟨w5,hw5⟩:∃ w5:World,Hid (w5=(wr.alloc (.cells #[.int .i64 (j:Int),.int .u8 p.d.z0,.int .u8 p.d.z1,.int .u8 p.d.z2,.int .u8 p.d.z3,.int .u8 p.d.z4,.int .u8 p.d.z5,.int .u8 p.d.z6,.int .u8 p.d.z7] 114)).drewN nq):=⟨_,rfl⟩
    rw[←hw5.o] at b5 ⊢;have X5:=aa (hX.o.later b5.o hX.o.lt);have O5:=aa (show cL w5 (w3.heap.size+1) _ (Mx.pks peer had (ps.take k)) from bm hO.o b5.o);have B5:=aa (hB.o.trans (b5.o.mono hB.o.size));clear e0 e1 e2 e3 e4 e5 e6 e7 e8 y0 y1 y2 y3 y4 y5 y6 y7 x0 x1 x2 x3 heq;refine(wN (some ⟨bq,oq,none⟩) ah n c nh ch peer had ⟨(j:Int),p.d⟩ w5 (HQ.o.later B5.o) (HH.o.later B5.o)).mono ?_;rintro e w6 ⟨q,hq,rfl,hb6⟩;have HQQ:=aa hq;clear hq;have X6:=aa (X5.o.later hb6.o X5.o.lt);have O6:=aa (show cL w6 (w3.heap.size+1) _ (Mx.pks peer had (ps.take k)) from bm O5.o hb6.o);have B6:=aa (B5.o.trans (hb6.o.mono B5.o.size));have S6:=aa X6.o.lt;go_wp2_with (at_builtin;refine eV rfl _ _ rfl (w3.heap.size+1) (Mx.pks peer had (ps.take k)) ?o1 q ?o2 ?o3 ?o4 ?_);case o1=>exact O6.o
    case o2=>rfl
    case o3=>have:=HL.o;omega
    case o4=>exact S6.o
    intro ad c2 w7 hown hgr;have b7:=aa ((Below.refl (w3.heap.size+1) w6).grown hgr S6.o (fun k hk=>(World.ownsRow.lt O6.o k hk).1));have O7:=aa hown;have X7:=aa (X6.o.later b7.o (Nat.lt_succ_self _));have B7:=aa (B6.o.trans (b7.o.mono (Nat.le_succ_of_le B3.o.size)));rw[←hr.o] at O7 ⊢;clear hown hgr;go_wp2_with fail;go_roundw
    case rel=>exact⟨k+1,r+1,some ad,c2,by omega,by go_num,rfl,by rw[HE.o,Ge,←hr.o];exact aa rfl,by rw[HE.o,←HQQ.o];exact O7,X7,B7⟩
    case measure=>simp[intOf];omega
  ·have HT:=aa (show ps.take k=ps from Gj (by have:=HP.o.1;omega))
   go_wp2_with fail;rw[HT.o] at hr hO;have hr':=hr.o;subst hr';refine bodyPost_ret (v:=.tuple #[.slice a' (Mx.pks peer had ps).length c',.nilIface]) (by simp[results,Tryz.results136,go_sem]) rfl ⟨a',c',rfl,aa (World.ownsRow.mono hO.o (Nat.le_succ_of_le B3.o.size)),hB⟩
section
variable {n i:Int} {k:Nat}
namespace Mx
def dQ:Pk:=⟨0,0,0,zB⟩
def fO (qs:List Pk):Nat→Int
 | 0 => 0
 | k + 1 => (qs.getD k dQ).at_ + 1
def qOk (n nx:Int) (q:Pk):Bool:=decide (nx≤q.at_) && (decide (q.at_<n) && (decide (0≤q.kind) && decide (q.kind<4)))
def gW (n:Int) (qs:List Pk) (k:Nat):Bool:=qOk n (fO qs k) (qs.getD k dQ)
def gE (n:Int) (qs:List Pk):Bool:=(List.range qs.length).all (gW n qs)
def qE (n:Int) (qs:List Pk):Int:=if gE n qs=true then 0 else 1
theorem zN {qs:List Pk} (hk:k<qs.length) (h:gW n qs k=false):gE n qs=false:=by
 unfold gE;rw[List.all_eq_false];exact⟨k,List.mem_range.2 hk,by rw[h];simp⟩
theorem zM {qs:List Pk} {q:Pk} (hq:qs[k]?=some q) (h:qOk n (fO qs k) q=false):qE n qs=1:=by
 rw[qE,zN (k:=k) (Gh.1 hq).1 (by unfold gW;rw[Ga,hq];exact h)];rfl
def qTo (n:Int) (qs:List Pk) (k:Nat):Prop:=∀ j,j<k→gW n qs j=true
theorem sP (n:Int) (qs:List Pk):qTo n qs 0:=fun _ hj=>absurd hj (by omega)
theorem sN {qs:List Pk} (h:qTo n qs k):0≤fO qs k:=by
 induction k with
 | zero => exact Int.le_refl _
 | succ k ih =>
  have h1:=h k (by omega);have h2:=ih (fun j hj=>h j (by omega));unfold gW qOk at h1;simp only[Bool.and_eq_true,decide_eq_true_eq] at h1;show 0≤(qs.getD k dQ).at_+1
  omega
theorem sO {qs:List Pk} {q:Pk} (h:qTo n qs k) (hq:qs[k]?=some q) (hg:qOk n (fO qs k) q=true):qTo n qs (k+1):=by
 intro j hj;rcases Nat.lt_succ_iff_lt_or_eq.1 hj with h1|h1
 ·exact h j h1
 ·subst h1
  unfold gW;rw[Ga,hq];exact hg
theorem kJ {qs:List Pk} {q:Pk} (hq:qs[k]?=some q):fO qs (k+1)=q.at_+1:=by
 rw[fO,Ga,hq];rfl
theorem zL {qs:List Pk} (h:qTo n qs k) (hk:qs.length≤k):qE n qs=0:=by
 rw[qE,show gE n qs=true by
  unfold gE;rw[List.all_eq_true];exact fun j hj=>h j (by have:=List.mem_range.1 hj;omega)]
 rfl
theorem FE {qs:List Pk} (h:qE n qs=0) {q:Pk} (hq:qs[k]?=some q):0≤q.at_∧q.at_<n∧0≤q.kind∧q.kind<4:=by
 have h0:gE n qs=true:=by
  unfold qE at h;by_cases h1:gE n qs=true
  ·exact h1
  ·rw[if_neg h1] at h
   exact absurd h (by omega)
 have hT:∀ j,j<qs.length→gW n qs j=true:=by
  unfold gE at h0;rw[List.all_eq_true] at h0;exact fun j hj=>h0 j (List.mem_range.2 hj)
 have hk:=(Gh.1 hq).1;have hx:=sN (n:=n) (k:=k) (fun j hj=>hT j (by omega));have h1:=hT k hk;unfold gW qOk at h1;rw[Ga,hq] at h1;simp only[Bool.and_eq_true,decide_eq_true_eq,Option.getD_some] at h1;omega
def atI (l:List B8) (i:Int):Option B8:=if i<0 then none else l[i.toNat]?
theorem ry {l:List B8} (h:i<0∨(l.length:Int)≤i):atI l i=none:=by
 unfold atI;split
 ·rfl
 ·exact List.getElem?_eq_none (by omega)
theorem rA {l:List B8} {y:B8} (h:i=k) (hy:l[k]?=some y):atI l i=some y:=by
 subst h;rw[atI,if_neg (by omega),Int.toNat_natCast,hy]
def cf (q:Pk) (peer had:List B8):Option B8:=if q.kind=0 then some zB else if q.kind=3 then some q.d else if q.kind=2 then atI had q.from_ else atI peer q.from_
def jQ (q:Pk) (peer had:List B8):List Pt:=match cf q peer had with|some d=>[⟨q.at_,d⟩]|none=>[]
def mQ (q:Pk) (peer had:List B8):List Int:=match cf q peer had with|some _=>[]|none=>[q.at_]
def aI (qs:List Pk) (peer had:List B8):List Pt:=qs.flatMap (fun q=>jQ q peer had)
def dJ (qs:List Pk) (peer had:List B8):List Int:=qs.flatMap (fun q=>mQ q peer had)
theorem iB {α β:Type} (f:α→List β) {l:List α} {x:α} (h:l[k]?=some x):(l.take (k+1)).flatMap f=(l.take k).flatMap f++f x:=by
 rw[List.take_add_one,h,List.flatMap_append];simp
theorem lu {α β:Type} (f:α→List β) (h1:∀ x,(f x).length≤1):∀ l:List α,(l.flatMap f).length≤l.length
 | [] => by simp
 | x :: l => by
  have h:=lu f h1 l;rw[List.flatMap_cons,Ge,List.length_cons];have:=h1 x;omega
theorem zJ {qs:List Pk} {peer had:List B8} {q:Pk} {d:B8} (h:qs[k]?=some q) (hs:cf q peer had=some d):aI (qs.take (k+1)) peer had=aI (qs.take k) peer had++[⟨q.at_,d⟩]∧dJ (qs.take (k+1)) peer had=dJ (qs.take k) peer had:=by
 unfold aI dJ;rw[iB _ h,iB _ h,show jQ q peer had=[⟨q.at_,d⟩] by rw[jQ,hs],show mQ q peer had=[] by rw[mQ,hs],List.append_nil];exact⟨rfl,rfl⟩
theorem zI {qs:List Pk} {peer had:List B8} {q:Pk} (h:qs[k]?=some q) (hs:cf q peer had=none):aI (qs.take (k+1)) peer had=aI (qs.take k) peer had∧dJ (qs.take (k+1)) peer had=dJ (qs.take k) peer had++[q.at_]:=by
 unfold aI dJ;rw[iB _ h,iB _ h,show jQ q peer had=[] by rw[jQ,hs],show mQ q peer had=[q.at_] by rw[mQ,hs],List.append_nil];exact⟨rfl,rfl⟩
theorem BS (qs:List Pk) (peer had:List B8):(aI qs peer had).length≤qs.length:=lu _ (fun q=>by unfold jQ;split<;>simp) qs
theorem Bj (qs:List Pk) (peer had:List B8):(dJ qs peer had).length≤qs.length:=lu _ (fun q=>by unfold mQ;split<;>simp) qs
def bI (had:List B8) (qs:List Pk):List B8:=qs.foldl (fun l q=>if q.kind=3 then Mx.bd l q.d else l) had
theorem nI {had:List B8} {qs:List Pk} {q:Pk} (h:qs[k]?=some q):bI had (qs.take (k+1))=if q.kind=3 then Mx.bd (bI had (qs.take k)) q.d else bI had (qs.take k):=by
 unfold bI;rw[List.take_add_one,h,List.foldl_append];rfl
theorem jf (l:List B8):bT l=0↔l.length≤8∧l.Nodup:=by
 unfold bT;by_cases h:8<l.length
 ·rw[if_pos h]
  constructor
  ·intro h1
   exact absurd h1 (by omega)
  ·intro h1
   omega
 ·rw[if_neg h]
  by_cases h2:l.Nodup
  ·rw[if_pos h2]
   exact⟨fun _=>⟨by omega,h2⟩,fun _=>rfl⟩
  ·rw[if_neg h2]
   exact⟨fun h1=>absurd h1 (by omega),fun h1=>absurd h1.2 h2⟩
theorem rU {l:List B8} (b:B8) (h:bT l=0):bT (bd l b)=0:=by
 rw[jf] at h ⊢;refine⟨mx l b,?_⟩;unfold bd;refine List.Sublist.nodup (List.take_sublist _ _) ?_;rw[List.nodup_cons];exact⟨by simp,h.2.filter _⟩
theorem pL {had:List B8} (h:bT had=0):∀ (qs:List Pk),bT (bI had qs)=0:=by
 intro qs;unfold bI;induction qs generalizing had with
 | nil => exact h
 | cons q qs ih =>
  rw[List.foldl_cons];refine ih ?_;by_cases hq:q.kind=3
  ·rw[if_pos hq]
   exact rU _ h
  ·rw[if_neg hq]
   exact h
end Mx
end
section
variable {n:Int}
namespace Mx
def fe (peer:List B8) (p:Pt):Bool:=decide (¬peer[p.at_.toNat]?=some p.d)
theorem ei (peer had:List B8) (ps:List Pt):pks peer had ps=(ps.filter (fe peer)).map (fun p=>dy p peer had):=by
 induction ps with
 | nil => rfl
 | cons p ps ih =>
  have e:pks peer had (p::ps)=kH peer had p++pks peer had ps:=by simp[pks]
  rw[e,ih];unfold kH;by_cases h:peer[p.at_.toNat]?=some p.d
  ·rw[if_pos h,List.filter_cons_of_neg (by simp[fe,h])]
   rfl
  ·rw[if_neg h,List.filter_cons_of_pos (by simp[fe,h])]
   rfl
theorem vI {l:List B8} {b:B8} (h:b∈l):atI l (dU l b)=some b:=by
 obtain⟨j,hj⟩:=List.getElem?_of_mem h;have key:∃ k:Nat,l[k]?=some b∧∀ i:Nat,i<k→l[i]?≠some b:=by
  induction j using Nat.strongRecOn with
  | _ j ih =>
   by_cases hx:∃ i,i<j∧l[i]?=some b
   ·obtain⟨i,hi,hib⟩:=hx
    exact ih i hi hib
   ·exact⟨j,hj,fun i hi hib=>hx ⟨i,hi,hib⟩⟩
 obtain⟨k,hk,hmin⟩:=key;rw[pE hk hmin];exact rA rfl hk
theorem yh {l:List B8} {b:B8}:dd l b=true↔b∈l:=by
 unfold dd;rw[kU];simp
theorem lr {l:List B8} {b:B8} (h:dd l b=true):atI l (eK l b)=some b:=by
 have h0:0≤dU l b:=by simpa [dd] using h
 rw[eK,if_neg (by omega)];exact vI (yh.1 h)
theorem qm (p:Pt) (peer had:List B8):cf (dy p peer had) peer had=some p.d∧(dy p peer had).at_=p.at_∧0≤(dy p peer had).kind∧(dy p peer had).kind<4:=by
 unfold dy;by_cases h0:p.d=zB
 ·rw[if_pos h0]
  refine⟨?_,rfl,by simp,by simp⟩;rw[cf,if_pos rfl,h0]
 ·rw[if_neg h0]
  by_cases h1:dd peer p.d=true
  ·rw[if_pos h1]
   refine⟨?_,rfl,by simp,by simp⟩;simp only[cf];exact lr h1
  ·rw[if_neg h1]
   by_cases h2:dd had p.d=true
   ·rw[if_pos h2]
    refine⟨?_,rfl,by simp,by simp⟩;simp only[cf];exact lr h2
   ·rw[if_neg h2]
    exact⟨rfl,rfl,by simp,by simp⟩
theorem BU (peer had:List B8) (ps:List Pt):aI (pks peer had ps) peer had=ps.filter (fe peer)∧dJ (pks peer had ps) peer had=[]:=by
 rw[ei];induction ps.filter (fe peer) with
 | nil => exact ⟨rfl, rfl⟩
 | cons p l ih =>
  obtain⟨h1,h2,_⟩:=qm p peer had;constructor
  ·rw[List.map_cons,aI,List.flatMap_cons,jQ,h1,h2]
   exact congrArg (p::·) ih.1
  ·rw[List.map_cons,dJ,List.flatMap_cons,mQ,h1]
   exact ih.2
def dq (n:Int):Int→List Pt→Prop
 | _, [] => True
 | s, p :: ps => s ≤ p.at_ ∧ p.at_ < n ∧ dq n (p.at_ + 1) ps
theorem qQ {ps:List Pt} (h:bB n ps=true):∀ (m k:Nat),ps.length-k=m→dq n (ct ps k) (ps.drop k):=by
 intro m;induction m with
 | zero =>
  intro k hk;rw[List.drop_eq_nil_of_le (by omega)];trivial
 | succ m ih =>
  intro k hk;have hlt:k<ps.length:=by omega
  rw[List.drop_eq_getElem_cons hlt];have h1:=kL h (F0 hlt);have h2:=ih (k+1) (by omega);have e:ct ps (k+1)=ps[k].at_+1:=by rw[ct,Ga,F0 hlt];rfl
  rw[e] at h2;exact⟨h1.1,h1.2,h2⟩
theorem dO {ps:List Pt} (h:bB n ps=true):dq n 0 ps:=qQ h _ 0 rfl
theorem qR:∀ {ps:List Pt} {s t:Int},dq n s ps→t≤s→dq n t ps
 | [], _, _, _, _ => trivial
 | _ :: _, _, _, h, ht => ⟨by have := h.1; omega, h.2.1, h.2.2⟩
theorem jz {n:Int} (f:Pt→Bool):∀ {ps:List Pt} {s:Int},dq n s ps→dq n s (ps.filter f)
 | [], _, _ => trivial
 | p :: ps, s, h => by
  have ih:=jz f h.2.2;by_cases hf:f p=true
  ·rw[List.filter_cons_of_pos hf]
   exact⟨h.1,h.2.1,ih⟩
  ·rw[List.filter_cons_of_neg hf]
   exact qR ih (by have:=h.1;omega)
theorem dr {n:Int}:∀ {ps:List Pt} {s:Int},dq n s ps→∀ p∈ps,s≤p.at_∧p.at_<n
 | [], _, _, p, hp => by simp at hp
 | p :: ps, s, h, q, hq => by
  rcases List.mem_cons.1 hq with rfl|h1
  ·exact⟨h.1,h.2.1⟩
  ·have:=dr h.2.2 q h1
   have:=h.1;omega
def rm (n:Int):Int→List Pk→Prop
 | _, [] => True
 | s, q :: qs => s ≤ q.at_ ∧ q.at_ < n ∧ (0 ≤ q.kind ∧ q.kind < 4) ∧ rm n (q.at_ + 1) qs
theorem qj (peer had:List B8) {n:Int}:∀ {ps:List Pt} {s:Int},dq n s ps→rm n s (ps.map (fun p=>dy p peer had))
 | [], _, _ => trivial
 | p :: ps, s, h => by
  obtain⟨_,h2,h3,h4⟩:=qm p peer had;have ih:=qj peer had h.2.2;rw[List.map_cons];refine⟨by rw[h2];exact h.1,by rw[h2];exact h.2.1,⟨h3,h4⟩,?_⟩;rw[h2];exact ih
theorem Fg {qs:List Pk} (h:rm n 0 qs):∀ k:Nat,k≤qs.length→qTo n qs k∧rm n (fO qs k) (qs.drop k):=by
 intro k;induction k with
 | zero => intro _; exact ⟨sP _ _, h⟩
 | succ k ih =>
  intro hk;obtain⟨h1,h2⟩:=ih (by omega);have hlt:k<qs.length:=by omega
  rw[List.drop_eq_getElem_cons hlt] at h2;have hg:=F0 hlt;refine⟨sO h1 hg ?_,?_⟩
  ·unfold qOk
   simp only[Bool.and_eq_true,decide_eq_true_eq];exact⟨h2.1,h2.2.1,h2.2.2.1.1,h2.2.2.1.2⟩
  ·rw[kJ hg]
   exact h2.2.2.2
theorem Ff (peer had:List B8) {ps:List Pt} (h:bB n ps=true):qE n (pks peer had ps)=0:=by
 rw[ei];exact zL (Fg (qj peer had (jz _ (dO h))) _ (Gi _)).1 (Gi _)
theorem sW {ps:List Pt} (h:bB n ps=true):fP n ps=0:=by rw[fP,if_pos h]
def jw (l:List B8) (p:Pt):List B8:=l.set p.at_.toNat p.d
theorem kI {peer:List B8} {n:Int}:∀ {ps:List Pt} {s:Int} {l:List B8},0≤s→dq n s ps→(∀ i:Nat,s≤(i:Int)→l[i]?=peer[i]?)→ps.foldl jw l=(ps.filter (fe peer)).foldl jw l
 | [], _, _, _, _, _ => rfl
 | p :: ps, s, l, hs, h, hl => by
  have hp0:0≤p.at_:=by have:=h.1;omega
  have hpe:((p.at_.toNat:Nat):Int)=p.at_:=Int.toNat_of_nonneg hp0;rw[List.foldl_cons];by_cases hf:peer[p.at_.toNat]?=some p.d
  ·rw[List.filter_cons_of_neg (by simp[fe,hf])]
   have e:jw l p=l:=by
    unfold jw;apply List.ext_getElem?;intro i;by_cases hi:p.at_.toNat=i
    ·subst hi
     rw[hl _ (by rw[hpe];exact h.1)];have hlen:p.at_.toNat<l.length:=by
      have h1:=hl p.at_.toNat (by rw[hpe];exact h.1);rw[hf] at h1;exact(Gh.1 h1).1
     rw[List.getElem?_set_self hlen,hf]
    ·rw[List.getElem?_set_ne hi]
   rw[e];exact kI (by omega) h.2.2 (fun i hi=>hl i (by have:=h.1;omega))
  ·rw[List.filter_cons_of_pos (by simp[fe,hf]),List.foldl_cons]
   refine kI (by omega) h.2.2 (fun i hi=>?_);unfold jw;rw[List.getElem?_set_ne (by omega)];exact hl i (by have:=h.1;omega)
theorem zH {peer:List B8} {ps:List Pt} (h:bB n ps=true):(ps.filter (fe peer)).foldl jw peer=ps.foldl jw peer :=
 (kI (Int.le_refl 0) (dO h) (fun _ _=>rfl)).symm
end Mx
end
def B8.arr (x:B8):Array Value:=#[.int .u8 x.z0,.int .u8 x.z1,.int .u8 x.z2,.int .u8 x.z3,.int .u8 x.z4,.int .u8 x.z5,.int .u8 x.z6,.int .u8 x.z7]
theorem Cy:zB.ok:=by intro z hz;simp[Mx.bytesOf,zB] at hz;omega
theorem B8.setAt (x:B8) (hx:x.ok) (i:Nat) (hi:i<8) (z:Int) (h0:0≤z) (h1:z≤255):∃ y:B8,y.ok∧x.arr.setIfInBounds i (.int .u8 z)=y.arr:=by
 have e:=fun t ht=>hx t ht
 simp only[Mx.bytesOf,List.mem_cons,List.not_mem_nil,or_false,forall_eq_or_imp,forall_eq] at e;obtain⟨e0,e1,e2,e3,e4,e5,e6,e7⟩:=e;have key:∀ y:B8,((0≤y.z0∧y.z0≤255)∧(0≤y.z1∧y.z1≤255)∧(0≤y.z2∧y.z2≤255)∧(0≤y.z3∧y.z3≤255)∧(0≤y.z4∧y.z4≤255)∧(0≤y.z5∧y.z5≤255)∧(0≤y.z6∧y.z6≤255)∧(0≤y.z7∧y.z7≤255))→y.ok:=by
  intro y hy;unfold B8.ok;simp only[Mx.bytesOf,List.mem_cons,List.not_mem_nil,or_false,forall_eq_or_imp,forall_eq];exact hy
 match i,hi with
 | 0, _ => exact ⟨{ x with z0 := z }, key _ ⟨⟨h0, h1⟩, e1, e2, e3, e4, e5, e6, e7⟩, rfl⟩
 | 1, _ => exact ⟨{ x with z1 := z }, key _ ⟨e0, ⟨h0, h1⟩, e2, e3, e4, e5, e6, e7⟩, rfl⟩
 | 2, _ => exact ⟨{ x with z2 := z }, key _ ⟨e0, e1, ⟨h0, h1⟩, e3, e4, e5, e6, e7⟩, rfl⟩
 | 3, _ => exact ⟨{ x with z3 := z }, key _ ⟨e0, e1, e2, ⟨h0, h1⟩, e4, e5, e6, e7⟩, rfl⟩
 | 4, _ => exact ⟨{ x with z4 := z }, key _ ⟨e0, e1, e2, e3, ⟨h0, h1⟩, e5, e6, e7⟩, rfl⟩
 | 5, _ => exact ⟨{ x with z5 := z }, key _ ⟨e0, e1, e2, e3, e4, ⟨h0, h1⟩, e6, e7⟩, rfl⟩
 | 6, _ => exact ⟨{ x with z6 := z }, key _ ⟨e0, e1, e2, e3, e4, e5, ⟨h0, h1⟩, e7⟩, rfl⟩
 | 7, _ => exact ⟨{ x with z7 := z }, key _ ⟨e0, e1, e2, e3, e4, e5, e6, ⟨h0, h1⟩⟩, rfl⟩
 | n + 8, h => omega
theorem oE {w:World} {g:Nat} {y:B8} {t:TypeId} (h:Bx w g y.arr t) (x:B8):Bx (aR w g 0 x) g x.arr t:=by
 have h8:=(((((((h.set 0 (.int .u8 x.z0)).set 1 (.int .u8 x.z1)).set 2 (.int .u8 x.z2)).set 3 (.int .u8 x.z3)).set 4 (.int .u8 x.z4)).set 5 (.int .u8 x.z5)).set 6 (.int .u8 x.z6)).set 7 (.int .u8 x.z7);have e:((((((((y.arr.setIfInBounds 0 (.int .u8 x.z0)).setIfInBounds 1 (.int .u8 x.z1)).setIfInBounds 2 (.int .u8 x.z2)).setIfInBounds 3 (.int .u8 x.z3)).setIfInBounds 4 (.int .u8 x.z4)).setIfInBounds 5 (.int .u8 x.z5)).setIfInBounds 6 (.int .u8 x.z6)).setIfInBounds 7 (.int .u8 x.z7))=x.arr:=by simp[B8.arr]
 rw[e] at h8;unfold aR;simp only[Nat.zero_add];exact h8
theorem kS (a:Option Addr) (n c:Nat) (l:List Int) (i:Nat) (w:World) (hl:ay w a n l) (hb:I64 l) (hn:n≤1000) (hi:i≤90000) :
 Calls Tryz.prog 22 #[.slice a n c,.int .i64 (i:Int)] w fun e w'=>∃ x:B8,x.ok∧e=.returned (.agg #[.int .u8 x.z0,.int .u8 x.z1,.int .u8 x.z2,.int .u8 x.z3,.int .u8 x.z4,.int .u8 x.z5,.int .u8 x.z6,.int .u8 x.z7])∧Hid (Gq w w'):=by
 have HL:=aa hl;have HB:=aa hb;clear hl hb;obtain⟨w0,hw0⟩:∃ w0:World,Hid (w0=(w.alloc (.cells #[.int .u8 0,.int .u8 0,.int .u8 0,.int .u8 0,.int .u8 0,.int .u8 0,.int .u8 0,.int .u8 0] 33)).alloc (.cells #[.int .u8 0,.int .u8 0,.int .u8 0,.int .u8 0,.int .u8 0,.int .u8 0,.int .u8 0,.int .u8 0] 33)):=⟨_,rfl⟩
 have R0:=aa (show Bx w0 w.heap.size zB.arr 33 by rw[hw0.o];exact(Bx.new w _ _).alloc _);have K0:=aa (show Bx w0 (w.heap.size+1) zB.arr 33 by
  rw[hw0.o];have h:=Bx.new (w.alloc (.cells #[.int .u8 0,.int .u8 0,.int .u8 0,.int .u8 0,.int .u8 0,.int .u8 0,.int .u8 0,.int .u8 0] 33)) #[.int .u8 0,.int .u8 0,.int .u8 0,.int .u8 0,.int .u8 0,.int .u8 0,.int .u8 0,.int .u8 0] 33;rw[World.size_alloc] at h;exact h)
 have B0:=aa (show Gq w w0 by rw[hw0.o];exact(af _ _).alloc (by simp) _);go_enter Tryz.func22,Tryz.ntmps22;go_wp2_with fail;rw[←hw0.o];refine(oU a n c l i w0 (HL.o.later B0.o) HB.o hn (by omega)).mono ?_;rintro e w1 ⟨r,hr,rfl,q,rfl⟩;have R1:=aa (R0.o.later (below_drewN (Below.refl _ _) q) R0.o.lt);have K1:=aa (K0.o.later (below_drewN (Below.refl _ _) q) K0.o.lt);have B1:=aa (below_drewN B0.o q);obtain⟨w1,hw1⟩:∃ w1:World,Hid (w1=w0.drewN q):=⟨_,rfl⟩
 rw[←hw1.o] at R1 K1 B1 ⊢;have kz:=K1.o.frozen;have rz:=R1.o.frozen;obtain⟨r0,r1,r2,r3,r4,r5,r6,r7⟩:=Bx.eight (x:=zB) R1.o;obtain⟨f0,f1,f2,f3,f4,f5,f6,f7⟩:=Bx.eight (x:=zB) K1.o;by_cases h0:(r:Int)%3=0
 ·have hd0:((r:Int)%3==0)=true:=by simpa using h0
  clear h0;go_wp2_with fail;change bodyPost Tryz.prog Tryz.f22 _ _ _ (aR w1 w.heap.size 0 zB);have R2:=aa (oE R1.o zB);have B2:=aa (bP B1.o (Gi w.heap.size) 0 zB);obtain⟨w2,hw2⟩:∃ w2:World,Hid (w2=aR w1 w.heap.size 0 zB):=⟨_,rfl⟩
  rw[←hw2.o] at R2 B2 ⊢;obtain⟨s0,s1,s2,s3,s4,s5,s6,s7⟩:=Bx.eight (x:=zB) R2.o;exact bodyPost_ret (v:=.agg #[.int .u8 zB.z0,.int .u8 zB.z1,.int .u8 zB.z2,.int .u8 zB.z3,.int .u8 zB.z4,.int .u8 zB.z5,.int .u8 zB.z6,.int .u8 zB.z7]) (by simp[results,Tryz.results22,go_sem,s0,s1,s2,s3,s4,s5,s6,s7]) rfl ⟨zB,Cy,rfl,B2⟩
 ·have hd0:((r:Int)%3==0)=false:=by simpa using h0
  clear h0;have hkb:w.heap.size+1≠w.heap.size:=by omega
  obtain⟨Z,hZ⟩:∃ Z:Int,Hid (Z=1+(r:Int)/3%5):=⟨_,rfl⟩
  obtain⟨x1,hx1,he1⟩:=zB.setAt Cy 0 (by omega) Z (by have:=hZ.o;omega) (by have:=hZ.o;omega);have K2:=aa (show Bx (w1.setCell ⟨w.heap.size+1,0,none⟩ (.int .u8 Z)) (w.heap.size+1) x1.arr 33 by rw[←he1];exact K1.o.set 0 _);have R2:=aa (R1.o.other ⟨w.heap.size+1,0,none⟩ (.int .u8 Z) (by show w.heap.size≠w.heap.size+1;omega));have B2:=aa (B1.o.setCell (p:=⟨w.heap.size+1,0,none⟩) (by show w.heap.size≤w.heap.size+1;omega) (.int .u8 Z));have HX1:=aa hx1;obtain⟨w2,hw2⟩:∃ w2:World,Hid (w2=w1.setCell ⟨w.heap.size+1,0,none⟩ (.int .u8 Z)):=⟨_,rfl⟩
  rw[←hw2.o] at K2 R2 B2;rw[hZ.o] at hw2;clear he1 hx1;by_cases h2:(r:Int)%3=2
  ·have hd2:((r:Int)%3==2)=true:=by simpa using h2
   clear h2;go_wp2_with fail;rw[←hw2.o];clear r0 r1 r2 r3 r4 r5 r6 r7 f0 f1 f2 f3 f4 f5 f6 f7 kz rz;go_loopw [7] (fun t wr=>∃ (k:Nat) (x:B8),t=.int .i64 (k:Int)∧1≤k∧k≤8∧Hid (x.ok)∧Hid (Bx wr (w.heap.size+1) x.arr 33)∧Hid (Bx wr w.heap.size zB.arr 33)∧Hid (Gq w wr)) (fun t _=>8-(intOf t).toNat)
   case atStart=>exact⟨1,x1,rfl,by omega,by omega,HX1,K2,R2,B2⟩
   case round =>
    obtain⟨k,x,rfl,hk1,hk8,hx,hK,hR,hB⟩:=hrel;by_cases hlt:(k:Int)<8
    ·go_wp2_with fail
     refine(oU a n c l (i+k) wr (HL.o.later hB.o) HB.o hn (by omega)).mono ?_;rintro e w3 ⟨r3,hr3,rfl,q3,rfl⟩;obtain⟨Y,hY⟩:∃ Y:Int,Hid (Y=(r3:Int)/7%256):=⟨_,rfl⟩
     obtain⟨y,hy,hye⟩:=x.setAt hx.o k (by omega) Y (by have:=hY.o;omega) (by have:=hY.o;omega);have HY:=aa hy;have K3:=aa (hK.out.later (below_drewN (Below.refl _ _) q3) hK.out.lt);have R3:=aa (hR.o.later (below_drewN (Below.refl _ _) q3) hR.o.lt);have B3:=aa (below_drewN hB.o q3);obtain⟨w3,hw3⟩:∃ w3:World,Hid (w3=wr.drewN q3):=⟨_,rfl⟩
     rw[←hw3.o] at K3 R3 B3 ⊢;have K4:=aa (show Bx (w3.setCell ⟨w.heap.size+1,k,none⟩ (.int .u8 Y)) (w.heap.size+1) y.arr 33 by rw[←hye];exact K3.o.set k _);have R4:=aa (R3.o.other ⟨w.heap.size+1,k,none⟩ (.int .u8 Y) (by show w.heap.size≠w.heap.size+1;omega));have B4:=aa (B3.o.setCell (p:=⟨w.heap.size+1,k,none⟩) (by show w.heap.size≤w.heap.size+1;omega) (.int .u8 Y));obtain⟨v,hv⟩:∃ v,w3.cell? ⟨w.heap.size+1,k,none⟩=some v:=⟨x.arr[k]'(by show k<8;omega),by rw[K3.o.cell k];exact Array.getElem?_eq_getElem _⟩
     have kz:=K3.o.frozen;obtain⟨w4,hw4⟩:∃ w4:World,Hid (w4=w3.setCell ⟨w.heap.size+1,k,none⟩ (.int .u8 Y)):=⟨_,rfl⟩
     rw[←hw4.o] at K4 R4 B4;rw[hY.o] at hw4;clear hye hy;go_wp2_with fail;go_roundw
     case rel=>exact⟨k+1,y,by go_num,by omega,by omega,HY,by rw[←hw4.o];exact K4,by rw[←hw4.o];exact R4,by rw[←hw4.o];exact B4⟩
     case measure=>simp[intOf];omega
    ·have HK:=aa hlt
     obtain⟨f0,f1,f2,f3,f4,f5,f6,f7⟩:=Bx.eight (x:=x) hK.out;obtain⟨r0,r1,r2,r3,r4,r5,r6,r7⟩:=Bx.eight (x:=zB) hR.o;have rz:=hR.o.frozen;go_wp2_with fail;change bodyPost Tryz.prog Tryz.f22 _ _ _ (aR wr w.heap.size 0 x);have RF:=aa (oE hR.o x);have BF:=aa (bP hB.o (Gi w.heap.size) 0 x);obtain⟨wf,hwf⟩:∃ wf:World,Hid (wf=aR wr w.heap.size 0 x):=⟨_,rfl⟩
     rw[←hwf.o] at RF BF ⊢;obtain⟨s0,s1,s2,s3,s4,s5,s6,s7⟩:=Bx.eight (x:=x) RF.o;exact bodyPost_ret (v:=.agg #[.int .u8 x.z0,.int .u8 x.z1,.int .u8 x.z2,.int .u8 x.z3,.int .u8 x.z4,.int .u8 x.z5,.int .u8 x.z6,.int .u8 x.z7]) (by simp[results,Tryz.results22,go_sem,s0,s1,s2,s3,s4,s5,s6,s7]) rfl ⟨x,hx.o,rfl,BF⟩
  ·have hd2:((r:Int)%3==2)=false:=by simpa using h2
   clear h2;go_upto_region 11 with fail
   rw[←hw2.o];clear r0 r1 r2 r3 r4 r5 r6 r7 f0 f1 f2 f3 f4 f5 f6 f7 kz rz;obtain⟨f0,f1,f2,f3,f4,f5,f6,f7⟩:=Bx.eight (x:=x1) K2.o;obtain⟨r0,r1,r2,r3,r4,r5,r6,r7⟩:=Bx.eight (x:=zB) R2.o;have rz:=R2.o.frozen;go_wp2_with fail;change bodyPost Tryz.prog Tryz.f22 _ _ _ (aR w2 w.heap.size 0 x1);have RF:=aa (oE R2.o x1);have BF:=aa (bP B2.o (Gi w.heap.size) 0 x1);obtain⟨wf,hwf⟩:∃ wf:World,Hid (wf=aR w2 w.heap.size 0 x1):=⟨_,rfl⟩
   rw[←hwf.o] at RF BF ⊢;obtain⟨s0,s1,s2,s3,s4,s5,s6,s7⟩:=Bx.eight (x:=x1) RF.o;exact bodyPost_ret (v:=.agg #[.int .u8 x1.z0,.int .u8 x1.z1,.int .u8 x1.z2,.int .u8 x1.z3,.int .u8 x1.z4,.int .u8 x1.z5,.int .u8 x1.z6,.int .u8 x1.z7]) (by simp[results,Tryz.results22,go_sem,s0,s1,s2,s3,s4,s5,s6,s7]) rfl ⟨x1,HX1.o,rfl,BF⟩
section
variable {n k:Int}
theorem Mx.yo (ps acc:List Pt) (q:Pt) (h:q∈ps.foldl Mx.cX acc):q∈acc∨q∈ps:=by
 induction ps generalizing acc with
 | nil => exact .inl h
 | cons p ps ih =>
  rcases ih (Mx.cX acc p) h with h1|h1
  ·rcases Mx.sJ h1 with h2|h2
   ·exact .inr (by rw[h2];exact List.mem_cons_self ..)
   ·exact .inl h2
  ·exact .inr (List.mem_cons_of_mem _ h1)
theorem Mx.Cd {b:Bu} (hb:Mx.aK b n=0) (hs:Mx.cn b n k=true):∀ q∈(Mx.bF b n k).aI,0≤q.at_∧q.at_<n:=by
 obtain⟨h1,_,h3⟩:=Mx.bM hb;intro q hq;have hE:(Mx.bF b n k).aI=Mx.dW (Mx.aJ b k):=by unfold Mx.bF;rw[hs];rfl
 rw[hE] at hq;unfold Mx.dW at hq;rcases Mx.yo _ _ q hq with h|h
 ·cases h
 ·obtain⟨e,he,hq'⟩:=List.mem_flatMap.1 h
  obtain⟨i,hi⟩:=List.mem_iff_getElem?.1 (Mx.lC e he);have hr:=(Mx.iR (Mx.bW h3).2.2 hi).1;exact⟨(Mx.gu h3 h1.2.1 e he q hq').1,Mx.uY hr q hq'⟩
theorem Mx.Ab {b:Bu} (hb:Mx.aK b n=0) (hs:Mx.cn b n k=true):(Mx.bF b n k).aI.length≤32:=by
 obtain⟨h1,_,h3⟩:=Mx.bM hb;have hE:(Mx.bF b n k).aI=Mx.dW (Mx.aJ b k):=by unfold Mx.bF;rw[hs];rfl
 rw[hE];have h4:=Mx.zS (Mx.sY (ps:=(Mx.aJ b k).flatMap (·.aI)) (l:=[]) trivial (fun q hq=>by
  obtain⟨e,he,hq'⟩:=List.mem_flatMap.1 hq;exact Mx.gu h3 h1.2.1 e he q hq')) (by omega)
 unfold Mx.dW;omega
theorem fq {b:Bu} (h:Mx.aK b n=0):Mx.small b.op b.se:=by
 obtain⟨h1,h2,h3⟩:=Mx.qw h;exact⟨fun e he=>by have:=h3 e he;omega,by omega,by omega⟩
end
section
variable {n prev to_ k hv:Nat}
namespace Mx
def Good (n:Nat) (ae:List (List B8)) (prev:Nat) (il:List B8) (ms:List Fr) (to_:Nat) (eL:List B8):Prop :=
 ∃ (u:Upd) (base fin:List B8),ms=u.msgs∧(∀ q∈u.qs,QW q)∧u.qs.length≤32∧u.to_=(to_:Int) ∧
  ((u.from_=0∧base=List.replicate n zB)∨(u.from_=(prev:Int)∧u.from_≠0∧ae[prev]?=some base)) ∧
  bT il=0∧qE n u.qs=0∧dJ u.qs base il=[]∧ae[to_]?=some fin∧aD base (aI u.qs base il)=fin∧eL=bI il u.qs∧base.length=n∧(∀ q∈u.qs,by8 q.d)∧(∀ x∈fin,by8 x)
theorem Good.mono {ae more:List (List B8)} {il eL:List B8} {ms:List Fr} (h:Good n ae prev il ms to_ eL):Good n (ae++more) prev il ms to_ eL:=by
 obtain⟨u,base,fin,h1,h2,h3,h4,h5,h6,h7,h8,h9,h10⟩:=h;have hx:∀ {i:Nat} {x:List B8},ae[i]?=some x→(ae++more)[i]?=some x:=by
  intro i x hi;rw[Gm (Gh.1 hi).1];exact hi
 refine⟨u,base,fin,h1,h2,h3,h4,?_,h6,h7,h8,hx h9,h10⟩;rcases h5 with h5|⟨a,b,c⟩
 ·exact .inl h5
 ·exact .inr ⟨a,b,hx c⟩
theorem rN {l:List B8} {b:B8} (h:dd l b=true):0≤eK l b∧eK l b<l.length:=by
 have h1:=lr h;unfold atI at h1;split at h1
 ·cases h1
 ·have:=(Gh.1 h1).1
  omega
theorem ur {p:Pt} {peer had:List B8} (h0:0≤p.at_) (h1:p.at_<32) (hp:peer.length≤32) (hh:had.length≤32):QW (dy p peer had):=by
 unfold dy QW;split
 ·exact⟨h0,h1,by simp,by simp,by simp,by simp,fun _=>rfl⟩
 ·split
  ·next h=>have:=rN h;exact⟨h0,h1,by simp,by simp,this.1,by simp only;omega,fun _=>rfl⟩
  ·split
   ·next h=>have:=rN h;exact⟨h0,h1,by simp,by simp,this.1,by simp only;omega,fun _=>rfl⟩
   ·exact⟨h0,h1,by simp,by simp,by simp,by simp,fun h=>absurd rfl h⟩
theorem fJ (l:List B8) (ps:List Pt):lay l ps=aD l ps:=rfl
theorem kV (l:List B8) (ps:List Pt):aD l ps=ps.foldl jw l:=rfl
theorem gH {n:Int}:∀ {ps:List Pt} {s:Int},dq n s ps→s≤n→(ps.length:Int)≤n-s
 | [], s, _, h => by simp; omega
 | p :: ps, s, h, hs => by
  have h1:=h.1;have h2:=h.2.1;have ih:=gH h.2.2 (by omega);rw[List.length_cons]
  push_cast
  omega
theorem oT {n:Int}:∀ {ps:List Pt} {s:Int} {l:List B8},dq n s ps→0≤s→n=(l.length:Int)→∀ p∈ps,p.d∈lay l ps
 | [], _, _, _, _, _, p, hp => by simp at hp
 | q :: ps, s, l, h, hs, hl, p, hp => by
  have h1:=h.1;have h2:=h.2.1;show p.d∈lay (dI l q) ps
  rcases List.mem_cons.1 hp with rfl|hp
  ·unfold dI
   rw[mN ps l _ _ (fun r hr=>by have:=dr h.2.2 r hr;omega)];have hlen:(lay l ps).length=l.length:=by rw[fJ];exact cN _ _
   exact List.mem_set (by omega) _
  ·exact oT h.2.2 (by omega) (by unfold dI;rw[List.length_set];exact hl) p hp
theorem iX:by8 zB:=by unfold by8 zB;simp
theorem sF {p:Pt} {peer had:List B8} (h:by8 p.d):by8 (dy p peer had).d:=by
 unfold dy;split
 ·exact iX
 ·split
  ·exact iX
  ·split
   ·exact iX
   ·exact h
theorem pI (hn:n≤32) {ae:List (List B8)} {had base fin:List B8} {ps:List Pt} {frm:Int} (hr:bB n ps=true) (hh:bT had=0) (hl:base.length=n)
 (hb:(frm=0∧base=List.replicate n zB)∨(frm=(prev:Int)∧frm≠0∧ae[prev]?=some base)) (hf:ae[to_]?=some fin) (hp:aD base ps=fin) (hby:∀ x∈fin,by8 x) :
 Good n ae prev had (Upd.msgs ⟨frm,(to_:Int),pks base had ps⟩) to_ (bI had (pks base had ps)):=by
 have hpp:=BU base had ps;have hrf:=dO hr;have hhl:=((jf had).1 hh).1;refine⟨⟨frm,(to_:Int),pks base had ps⟩,base,fin,rfl,?_,?_,rfl,hb,hh,Ff base had hr,hpp.2,hf,?_,rfl,hl,?_,hby⟩
 ·intro q hq
  have hq':q∈(ps.filter (fe base)).map (fun p=>dy p base had):=by rw[←ei];exact hq
  obtain⟨p,hp1,rfl⟩:=List.mem_map.1 hq';have h1:=dr hrf p ((List.mem_filter.1 hp1).1);exact ur h1.1 (by omega) (by omega) (by omega)
 ·show(pks base had ps).length≤32
  rw[ei,List.length_map];have h1:=List.length_filter_le (fe base) ps;have h2:=gH hrf (by omega);omega
 ·show aD base (aI (pks base had ps) base had)=fin
  rw[hpp.1,kV,zH hr,←kV];exact hp
 ·intro q hq
  have hq':q∈(ps.filter (fe base)).map (fun p=>dy p base had):=by rw[←ei];exact hq
  obtain⟨p,hp1,rfl⟩:=List.mem_map.1 hq';refine sF (hby _ ?_);rw[←hp,←fJ];exact oT hrf (Int.le_refl 0) (by rw[hl]) p ((List.mem_filter.1 hp1).1)
def dF (l:List B8):List Pt:=(List.range l.length).map (fun i:Nat=>⟨(i:Int),l.getD i zB⟩)
theorem ki (l:List B8):(dF l).length=l.length:=by unfold dF;simp
theorem lS {l:List B8} {i:Nat} (h:i<l.length):(dF l)[i]?=some ⟨(i:Int),l.getD i zB⟩:=by
 unfold dF;rw[List.getElem?_map,List.getElem?_range h];rfl
theorem lf (l:List B8):bB l.length (dF l)=true:=by
 refine jy (fun k hk=>?_);rw[ki] at hk;have h1:=lS hk;have h2:(dF l).getD k dP=⟨(k:Int),l.getD k zB⟩:=by rw[Ga,h1];rfl
 have h3:ct (dF l) k=(k:Int):=by
  cases k with
  | zero => rfl
  | succ j =>
   rw[ct,Ga,lS (by omega)];simp
 unfold eD;rw[h2,h3];simp;omega
theorem CB {l:List B8}:∀ p∈dF l,0≤p.at_∧p.at_<(l.length:Int):=by
 intro p hp;obtain⟨i,hi,rfl⟩:=List.mem_map.1 hp;have:=List.mem_range.1 hi;exact⟨by simp,by simp only;omega⟩
theorem iW (l m:List B8) (h:m.length=l.length):aD m (dF l)=l:=by
 have key:∀ k,k≤l.length→aD m ((dF l).take k)=l.take k++m.drop k:=by
  intro k;induction k with
  | zero => intro _; rfl
  | succ k ih =>
   intro hk;have hk':k<l.length:=by omega
   rw[gq m (dF l) k _ (lS hk'),ih (by omega)];simp only[Int.toNat_natCast];rw[List.set_append_right _ _ (by rw[Gk];omega),Gk,show k-min k l.length=0 by omega];rw[List.drop_eq_getElem_cons (by omega:k<m.length),List.set_cons_zero,List.take_add_one,F0 hk',List.append_assoc];rw[Ga,F0 hk'];rfl
 have h1:=key l.length (Gi _);rw[Gj (by rw[ki];omega),Gj (Gi _),List.drop_of_length_le (by omega),List.append_nil] at h1;exact h1
theorem kO {b:Bu} {n k:Int} (hb:aK b n=0) (hs:cn b n k=true):bB n (bF b n k).aI=true:=by
 obtain⟨k1,_,k3⟩:=bM hb;have hin:=Cd hb hs;refine uZ ?_ (fun q hq=>(hin q hq).2);have hE:(bF b n k).aI=dW (aJ b k):=by unfold bF;rw[hs];rfl
 rw[hE];have hri:=gu (k:=k) k3 k1.2.1;unfold dW;have key:∀ (l acc:List Pt),Rk 0 acc→(∀ q∈l,0≤q.at_∧q.at_<32)→Rk 0 (l.foldl cX acc):=by
  intro l;induction l with
  | nil => intro acc h _; exact h
  | cons p l ih =>
   intro acc h hl;rw[List.foldl_cons];exact ih _ (lY h (hl p (List.mem_cons_self ..)).1 (hl p (List.mem_cons_self ..)).2) (fun q hq=>hl q (List.mem_cons_of_mem _ hq))
 refine key _ [] trivial (fun q hq=>?_);obtain⟨e,he,hqe⟩:=List.mem_flatMap.1 hq;exact hri e he q hqe
theorem vO (hn:n≤32) {b:Bu} {ae:List (List B8)} {now x had:List B8} (h:gk n b ae now) (hb:b.num=(hv:Int)) (hk:k≤hv) (hs:cn b n (k:Int)=true) (hx:ae[k]?=some x) (hl:x.length=n) (h0:ae[0]?=some (List.replicate n zB)) (hh:bT had=0) (hby:∀ l∈ae,∀ x∈l,by8 x) :
 Good n ae k had (Upd.msgs ⟨(k:Int),(hv:Int),pks x had (bF b n (k:Int)).aI⟩) hv (bI had (pks x had (bF b n (k:Int)).aI)):=by
 have h1:=nO h (by omega) (by omega) hs (by rw[Int.toNat_natCast];exact hx);rw[hb,Int.toNat_natCast] at h1;refine pI hn (kO h.may hs) hh hl ?_ h1 (fJ _ _).symm (hby _ (Gp h1));by_cases hk0:k=0
 ·subst hk0
  rw[h0] at hx;exact .inl ⟨rfl,(Gg hx).symm⟩
 ·exact .inr ⟨rfl,by omega,hx⟩
theorem vP (hn:n≤32) {ae:List (List B8)} {y had:List B8} (hy:ae[hv]?=some y) (hl:y.length=n) (hh:bT had=0) (hby:∀ l∈ae,∀ x∈l,by8 x) :
 Good n ae k had (Upd.msgs ⟨0,(hv:Int),pks (List.replicate n zB) had (dF y)⟩) hv (bI had (pks (List.replicate n zB) had (dF y))):=by
 have hr:=lf y;rw[hl] at hr;exact pI hn hr hh (by simp) (.inl ⟨rfl,rfl⟩) hy (iW y _ (by simp[hl])) (hby _ (Gp hy))
end Mx
end
theorem lJ {p:Option Addr} {x:Int}:iV #[.pointer p,.int .i64 x]:=by
 intro j v
 match j with
 | 0 => simp
 | 1 => simp
 | j + 2 => simp
theorem Ex.ew (w:World) (g:Nat) (s0 s1:Value):Ex (fun b=>b=g) w (ew w g s0 s1):=Ex.one (iO (aq w (some g)) s0 s1)
theorem sw (S:Nat→Prop) (sa:Option Addr) (sc n h:Nat) (ls bl:List B8) (a b:Int) (w:World) (hm:Mut S w) (hs:BL w sa (Mx.sz n) ls) (hd:Mx.Hd n h ls bl a b) :
 Calls Tryz.prog 56 #[.agg #[.slice sa (Mx.sz n) sc,.slice none 0 0,.int .i64 (-1)],.int .i64 (n:Int)] w fun e w'=>∃ g,e=.returned (.tuple #[.agg #[.pointer (some ⟨g,0,none⟩),.int .i64 (n:Int)],.nilIface])∧Hid (eH S w w' g n bl a b)∧Hid (Gq w w'):=by
 obtain⟨W0,hW0⟩:∃ W0:World,Hid (W0=(w.alloc (.cells #[.slice sa (Mx.sz n) sc,.slice none 0 0,.int .i64 (-1)] 130)).alloc (.cells #[.pointer none,.int .i64 0] 87)):=⟨_,rfl⟩
 have X0:=aa (show Bx W0 w.heap.size #[.slice sa (Mx.sz n) sc,.slice none 0 0,.int .i64 (-1)] 130 by rw[hW0.o];exact(Bx.new w _ _).alloc _);have R0:=aa (show Bx W0 (w.heap.size+1) #[.pointer none,.int .i64 0] 87 by
  rw[hW0.o];have h:=Bx.new (w.alloc (.cells #[.slice sa (Mx.sz n) sc,.slice none 0 0,.int .i64 (-1)] 130)) #[.pointer none,.int .i64 0] 87;rw[World.size_alloc] at h;exact h)
 have D0:=aa (show Gq w W0 by rw[hW0.o];exact(af _ _).alloc (by simp) _);have S0:=aa (show W0.heap.size=w.heap.size+2 by rw[hW0.o];simp);have HS:=aa (hs.later D0.o);have HM:=aa hm;have HD:=aa hd;clear hs hm hd;obtain⟨x0,x1,x2⟩:=X0.o.three;go_enter Tryz.func56,Tryz.ntmps56;go_wp2_with fail;rw[←hW0.o];go_wp2_with fail;refine(Ds sa none (Mx.sz n) sc 0 0 (-1) n ls [] W0 HS.o (PL.nil W0) HD.o.n1 HD.o.n2 rfl (Mx.lU HD.o.n2) rfl (by omega) (by omega) (by omega) _ rfl h HD.o.mark HD.o.mk0).mono ?_;rintro e w1 ⟨g,a1,c1,a2,c2,rfl,G1,T1,B1⟩;have R1:=aa (R0.o.later B1.o (by rw[S0.o];omega));obtain⟨r0,r1⟩:=R1.o.pair;have rz:=R1.o.frozen;have D1:=aa (D0.o.trans (B1.o.mono D0.o.size));clear x0 x1 x2;go_wp2_with fail;obtain⟨t0,t1⟩:=(R1.o.fD (.pointer (some ⟨g,0,none⟩)) (.int .i64 (n:Int))).pair;have hgx:g≠w.heap.size+1:=by have h1:=G1.o;have h2:=S0.o;omega
 have BF:=aa (dM D1.o (g:=w.heap.size+1) (by omega) (.pointer (some ⟨g,0,none⟩)) (.int .i64 (n:Int)));have TF:=aa (T1.o.other (Ex.ew w1 (w.heap.size+1) (.pointer (some ⟨g,0,none⟩)) (.int .i64 (n:Int))) R1.o lJ hgx);exact bodyPost_ret (v:=.tuple #[.agg #[.pointer (some ⟨g,0,none⟩),.int .i64 (n:Int)],.nilIface]) (by simp[results,Tryz.results56,go_sem,t0,t1]) rfl ⟨g,rfl,aa (eH.of (by have h1:=G1.o;have h2:=S0.o;omega) TF.o HD.o HM.o BF.o),BF⟩
theorem nQ (S:Nat→Prop) (n:Nat) (w:World) (hm:Mut S w) (h1:1≤n) (h2:n≤32) :
 Calls Tryz.prog 40 #[.int .i64 (n:Int)] w fun e w'=>∃ g,e=.returned (.tuple #[.agg #[.pointer (some ⟨g,0,none⟩),.int .i64 (n:Int)],.nilIface])∧Hid (eH S w w' g n (List.replicate n zB) 0 0)∧Hid (Gq w w'):=by
 obtain⟨W0,hW0⟩:∃ W0:World,Hid (W0=w.alloc (.cells #[.pointer none,.int .i64 0] 87)):=⟨_,rfl⟩
 have R0:=bxA hW0;have D0:=beA hW0;have HM:=aa hm;clear hm;go_enter Tryz.func40,Tryz.ntmps40;go_wp2_with fail;rw[←hW0.o];refine(yp n W0 h1 h2).mono ?_;rintro e w1 ⟨a,c,rfl,B1,E1⟩;obtain⟨N,hN⟩:∃ N:Nat,Hid (N=Mx.sz n):=⟨_,rfl⟩
 rw[←hN.o];obtain⟨W2,hW2⟩:∃ W2:World,Hid (W2=w1.alloc (.cells #[.slice a N c,.slice none 0 0,.int .i64 (-1)] 130)):=⟨_,rfl⟩
 have D1:=aa (D0.o.trans (E1.o.mono D0.o.size));have D2:=aa (show Gq w W2 by rw[hW2.o];exact D1.o.alloc D1.o.size _);have E2:=beA hW2;have X2:=bxA hW2;have R2:=aa ((R0.o.later E1.o R0.o.lt).later E2.o (Gf R0.o.lt E1.o.size));have B2:=aa (B1.o.later E2.o);obtain⟨x0,x1,x2⟩:=X2.o.three;go_wp2_with fail;rw[←hW2.o];go_wp2_with fail;rw[hN.o];refine(sw S a c n 0 _ (List.replicate n zB) 0 0 W2 (HM.o.later D2.o) B2.o (Mx.Hd.zero h1 h2)).mono ?_;rintro e w3 ⟨g,rfl,G3,E3⟩;have R3:=aa (R2.o.later E3.o R2.o.lt);obtain⟨r0,r1⟩:=R3.o.pair;have rz:=R3.o.frozen;have D3:=aa (D2.o.trans (E3.o.mono D2.o.size));clear x0 x1 x2;go_wp2_with fail;obtain⟨t0,t1⟩:=(R3.o.fD (.pointer (some ⟨g,0,none⟩)) (.int .i64 (n:Int))).pair;have hgx:g≠w.heap.size:=by have h1:=G3.o.1;have h2:=R2.o.lt;omega
 have hns:¬S w.heap.size:=fun hs=>by have:=HM.o.lt _ hs;omega
 exact bodyPost_ret (v:=.tuple #[.agg #[.pointer (some ⟨g,0,none⟩),.int .i64 (n:Int)],.nilIface]) (by simp[results,Tryz.results40,go_sem,t0,t1]) rfl ⟨g,rfl,aa ((G3.o.low D2.o.size).box (Ex.ew w3 w.heap.size _ _) R3.o lJ hgx hns),aa (dM D3.o (Gi _) _ _)⟩
/-- what a node finds that begins anew -/
theorem oD (S:Nat→Prop) (g n:Nat) (bl:List B8) (a b:Int) (w:World) (hm:Mut S w) (hn:Nd S w g n bl a b) :
 Calls Tryz.prog 35 #[.agg #[.pointer (some ⟨g,0,none⟩),.int .i64 (n:Int)]] w fun e w'=>∃ g',e=.returned (.tuple #[.agg #[.pointer (some ⟨g',0,none⟩),.int .i64 (n:Int)],.nilIface])∧Hid (eH S w w' g' n bl a b)∧Hid (Gq w w'):=by
 obtain⟨W0,hW0⟩:∃ W0:World,Hid (W0=(w.alloc (.cells #[.pointer (some ⟨g,0,none⟩),.int .i64 (n:Int)] 87)).alloc (.cells #[.pointer none,.int .i64 0] 87)):=⟨_,rfl⟩
 have X0:=aa (show Bx W0 w.heap.size #[.pointer (some ⟨g,0,none⟩),.int .i64 (n:Int)] 87 by rw[hW0.o];exact(Bx.new w _ _).alloc _);have R0:=aa (show Bx W0 (w.heap.size+1) #[.pointer none,.int .i64 0] 87 by
  rw[hW0.o];have h:=Bx.new (w.alloc (.cells #[.pointer (some ⟨g,0,none⟩),.int .i64 (n:Int)] 87)) #[.pointer none,.int .i64 0] 87;rw[World.size_alloc] at h;exact h)
 have D0:=aa (show Gq w W0 by rw[hW0.o];exact(af _ _).alloc (by simp) _);have S0:=aa (show W0.heap.size=w.heap.size+2 by rw[hW0.o];simp);obtain⟨_,h,ls,sa,sc,pa,pc,T0,HD,_⟩:=hn;have HT:=aa (T0.later D0.o);have HM:=aa hm;have HD:=aa HD;clear hm T0;obtain⟨x0,x1⟩:=X0.o.pair;go_enter Tryz.func35,Tryz.ntmps35;go_wp2_with fail;rw[←hW0.o];go_wp2_with fail;refine(zW g n h ls [] (-1) sa sc pa 0 pc W0 HT.o (by omega)).mono ?_;rintro e w1 ⟨a1,c1,a2,c2,rfl,K1,E1⟩;obtain⟨N,hN⟩:∃ N:Nat,Hid (N=Mx.sz n):=⟨_,rfl⟩
 rw[←hN.o];go_wp2_with fail;rw[hN.o];refine(xU a1 a2 none (Mx.sz n) c1 0 c2 0 0 (-1) ls [] [] w1 K1.o.bl K1.o.pl (ay.nil w1) (fun z hz=>by simp at hz) (Mx.lU HD.o.n2)).mono ?_;rintro e w2 ⟨a3,c3,rfl,B2,E2⟩;rw[←hN.o];obtain⟨W3,hW3⟩:∃ W3:World,Hid (W3=w2.alloc (.cells #[.slice a3 N c3,.slice none 0 0,.int .i64 (-1)] 130)):=⟨_,rfl⟩
 have D1:=aa (D0.o.trans (E1.o.mono D0.o.size));have D2:=aa (D1.o.trans (E2.o.mono D1.o.size));have D3:=aa (show Gq w W3 by rw[hW3.o];exact D2.o.alloc D2.o.size _);have E3:=beA hW3;have F3:=aa (show Gq W0 W3 from(E1.o.trans (E2.o.mono E1.o.size)).trans (E3.o.mono (Gn E1.o.size E2.o.size)));have X3:=bxA hW3;have Y3:=aa (X0.o.later F3.o X0.o.lt);have R3:=aa (R0.o.later F3.o R0.o.lt);have B3:=aa (B2.o.later E3.o);clear x0 x1;obtain⟨x0,x1,x2⟩:=X3.o.three;obtain⟨y0,y1⟩:=Y3.o.pair;go_upto_region 2 with fail
 rw[←hW3.o];go_wp2_with fail;rw[hN.o];refine(sw S a3 c3 n h ls bl a b W3 (HM.o.later D3.o) B3.o HD.o).mono ?_;rintro e w4 ⟨g',rfl,G4,E4⟩;have R4:=aa (R3.o.later E4.o R3.o.lt);obtain⟨r0,r1⟩:=R4.o.pair;have rz:=R4.o.frozen;have D4:=aa (D3.o.trans (E4.o.mono D3.o.size));clear x0 x1 x2 y0 y1;go_wp2_with fail;obtain⟨t0,t1⟩:=(R4.o.fD (.pointer (some ⟨g',0,none⟩)) (.int .i64 (n:Int))).pair;have hgx:g'≠w.heap.size+1:=by have h1:=G4.o.1;have h2:=R3.o.lt;omega
 have hns:¬S (w.heap.size+1):=fun hs=>by have:=HM.o.lt _ hs;omega
 exact bodyPost_ret (v:=.tuple #[.agg #[.pointer (some ⟨g',0,none⟩),.int .i64 (n:Int)],.nilIface]) (by simp[results,Tryz.results35,go_sem,t0,t1]) rfl ⟨g',rfl,aa ((G4.o.low D3.o.size).box (Ex.ew w4 (w.heap.size+1) _ _) R4.o lJ hgx hns),aa (dM D4.o (by omega) _ _)⟩
theorem yH (n:Nat) (hn:n≤1000):∃ C:Array Value,(∀ w:World,(Instr.makeSlice 98 (.int .i64 0) (.int .i64 (n:Int))).run Tryz.prog w=.ok (.slice (some ⟨w.heap.size,0,none⟩) 0 n) (w.alloc (.cells C 114))) ∧
 Hid (∀ (w:World) (base:Nat),base≤w.heap.size→bg (w.alloc (.cells C 114)) base (.slice (some ⟨w.heap.size,0,none⟩) 0 n) []):=by
 obtain⟨i0,hi,hz0,hz1,hz2⟩:=info_parts Tryz.info114;refine⟨madeCells #[Value.int .i64 0,.int .u8 0,.int .u8 0,.int .u8 0,.int .u8 0,.int .u8 0,.int .u8 0,.int .u8 0,.int .u8 0] (n*9),fun w=>?_,fun w base hb=>?_⟩
 ·have h:=run_makeSlice (P:=Tryz.prog) w 98 114 i0 _ Tryz.underlying98 hi hz0 .i64 .i64 (0:Int) (n:Int) (by omega) (by omega) (by rw[hz1];simp;omega) (by rw[hz2];omega) (by omega)
  rw[hz1] at h;simpa [Value.cells] using h
 ·exact World.ownsRow_made w _ n hb (by unfold maxLen;omega) (size_madeCells _ _)
theorem Mx.xD {l:List B8} {k:Nat} {x:B8} (h:l[k]?=some x):(Mx.dF l).take (k+1)=(Mx.dF l).take k++[⟨(k:Int),x⟩]:=by
 have hk:=(Gh.1 h).1;rw[List.take_add_one,Mx.lS hk,Ga,h];rfl
theorem jM (a:Option Addr) (n c:Nat) (l:List B8) (w:World) (hl:BL w a n l) (hn:n≤1000) :
 Calls Tryz.prog 135 #[.slice a n c] w fun e w'=>∃ a' c',e=.returned (.slice a' n c')∧Hid (bg w' w.heap.size (.slice a' n c') (Mx.dF l))∧Hid (Gq w w'):=by
 obtain⟨C,hC,HC⟩:=yH n hn;have HL:=aa hl;have hll:=hl.1;have HLL:=aa hll;clear hl hll;obtain⟨W0,hW0⟩:∃ W0:World,Hid (W0=w.alloc (.cells C 114)):=⟨_,rfl⟩
 have D0:=beA hW0;have O0:=aa (show bg W0 w.heap.size (.slice (some ⟨w.heap.size,0,none⟩) 0 n) [] by rw[hW0.o];exact HC.o w w.heap.size (Gi _));clear HC;go_enter Tryz.func135,Tryz.ntmps135;go_wp2_with fail;rw[←hW0.o];go_wp2_with fail;clear hC;go_loopw [3,11] (fun v t wr=>∃ (k:Nat) (ad:Option Addr) (cc:Nat),t=.int .i64 (k:Int)∧v=.slice ad k cc∧k≤n∧Hid (bg wr w.heap.size (.slice ad k cc) ((Mx.dF l).take k))∧Hid (Gq w wr)) (fun _ t _=>n-(intOf t).toNat)
 case atStart=>exact⟨0,_,_,rfl,rfl,Nat.zero_le _,by rw[List.take_zero];exact O0,D0⟩
 case round =>
  obtain⟨k,ad,cc,rfl,rfl,hk,hO,hB⟩:=hrel;by_cases hlt:k<n
  ·have hlti:(k:Int)<n:=by omega
   obtain⟨b,off,x,ha,hbw,hx,c0,c1,c2,c3,c4,c5,c6,c7⟩:=(HL.o.later hB.o).at_ k hlt;subst ha;have HX:=aa hx;clear hx;obtain⟨W1,hW1⟩:∃ W1:World,Hid (W1=wr.alloc (.cells #[.int .u8 x.z0,.int .u8 x.z1,.int .u8 x.z2,.int .u8 x.z3,.int .u8 x.z4,.int .u8 x.z5,.int .u8 x.z6,.int .u8 x.z7] 33)):=⟨_,rfl⟩
   have X1:=bxA hW1;have B1:=aa (show Gq w W1 by rw[hW1.o];exact hB.o.alloc hB.o.size _);have O1:=aa (show bg W1 w.heap.size (.slice ad k cc) ((Mx.dF l).take k) by rw[hW1.o];exact World.ownsRow.alloc hO.o _);have S1:=aa B1.o.size;go_upto_region 5 with fail
   rw[←hW1.o];obtain⟨x0,x1,x2,x3,x4,x5,x6,x7⟩:=X1.o.eight;clear c0 c1 c2 c3 c4 c5 c6 c7;have HK:=aa (show((Mx.dF l).take k).length=k by rw[Gk,Mx.ki,HLL.o];omega);obtain⟨T,hT⟩:∃ T:List Pt,Hid (T=(Mx.dF l).take k):=⟨_,rfl⟩
   rw[←hT.o] at O1 HK;go_wp2_with (at_builtin;refine eA rfl _ _ rfl w.heap.size T ?o1 ⟨(k:Int),x⟩ ?o2 ?o3 ?o4 ?_);case o1=>exact O1.o
   case o2=>rfl
   case o3=>rw[HK.o];omega
   case o4=>exact S1.o
   rw[HK.o];intro ad2 c2 w3 hown hgr;rw[hT.o,←Mx.xD HX.o] at hown;have O3:=aa hown;have B3:=aa (B1.o.grown hgr S1.o (fun k hk=>(World.ownsRow.lt O1.o k hk).1));clear hown hgr x0 x1 x2 x3 x4 x5 x6 x7;go_wp2_with fail;go_roundw
   case rel=>exact⟨k+1,some ad2,c2,by go_num,rfl,by omega,O3,B3⟩
   case measure=>simp[intOf];omega
  ·obtain rfl:k=n:=by omega
   go_wp2_with fail;go_ret;exact⟨ad,cc,rfl,by rw[Gj (by rw[Mx.ki,HLL.o];exact Gi _)] at hO;exact hO,hB⟩
theorem Mx.xp {q:Pk} {peer had:List B8} (h:q.kind=0):Mx.cf q peer had=some zB:=by rw[Mx.cf,if_pos h]
theorem Mx.zV {q:Pk} {peer had:List B8} (h:q.kind=3):Mx.cf q peer had=some q.d:=by rw[Mx.cf,if_neg (by omega),if_pos h]
theorem Mx.zU {q:Pk} {peer had:List B8} (h:q.kind=2):Mx.cf q peer had=Mx.atI had q.from_:=by rw[Mx.cf,if_neg (by omega),if_neg (by omega),if_pos h]
theorem Mx.xo {q:Pk} {peer had:List B8} (h0:¬q.kind=0) (h2:¬q.kind=2) (h3:¬q.kind=3):Mx.cf q peer had=Mx.atI peer q.from_:=by rw[Mx.cf,if_neg h0,if_neg h3,if_neg h2]
def ru:Option B8→Value
 | some y => .tuple #[.agg #[.int .u8 y.z0, .int .u8 y.z1, .int .u8 y.z2, .int .u8 y.z3, .int .u8 y.z4, .int .u8 y.z5, .int .u8 y.z6, .int .u8 y.z7], .bool true]
 | none => .tuple #[.agg #[.int .u8 0, .int .u8 0, .int .u8 0, .int .u8 0, .int .u8 0, .int .u8 0, .int .u8 0, .int .u8 0], .bool false]
theorem rT (q:Pk) (w:World) :
 Calls Tryz.prog 199 #[.agg #[],.agg #[.int .i64 q.at_,.int .i64 q.kind,.int .i64 q.from_,.int .u8 q.d.z0,.int .u8 q.d.z1,.int .u8 q.d.z2,.int .u8 q.d.z3,.int .u8 q.d.z4,.int .u8 q.d.z5,.int .u8 q.d.z6,.int .u8 q.d.z7]] w fun e w'=>e=.returned (ru (some zB))∧Gq w w':=by
 go_enter Tryz.func199,Tryz.ntmps199;go_wp2_with fail;exact bodyPost_ret (v:=.tuple #[.agg #[.int .u8 0,.int .u8 0,.int .u8 0,.int .u8 0,.int .u8 0,.int .u8 0,.int .u8 0,.int .u8 0],.bool true]) (by simp[results,Tryz.results199,go_sem]) rfl ⟨rfl,(((af _ _).alloc (by simp) _).alloc (by simp;omega) _)⟩
theorem rS (q:Pk) (w:World) :
 Calls Tryz.prog 204 #[.agg #[],.agg #[.int .i64 q.at_,.int .i64 q.kind,.int .i64 q.from_,.int .u8 q.d.z0,.int .u8 q.d.z1,.int .u8 q.d.z2,.int .u8 q.d.z3,.int .u8 q.d.z4,.int .u8 q.d.z5,.int .u8 q.d.z6,.int .u8 q.d.z7]] w fun e w'=>e=.returned (ru (some q.d))∧Gq w w':=by
 go_enter Tryz.func204,Tryz.ntmps204;go_wp2_with fail;exact bodyPost_ret (v:=.tuple #[.agg #[.int .u8 q.d.z0,.int .u8 q.d.z1,.int .u8 q.d.z2,.int .u8 q.d.z3,.int .u8 q.d.z4,.int .u8 q.d.z5,.int .u8 q.d.z6,.int .u8 q.d.z7],.bool true]) (by simp[results,Tryz.results204,go_sem]) rfl ⟨rfl,(((af _ _).alloc (by simp) _).alloc (by simp;omega) _)⟩
theorem mg (q:Pk) (a:Option Addr) (n c:Nat) (l:List B8) (w:World) (hl:BL w a n l) :
 Calls Tryz.prog 201 #[.slice a n c,.agg #[.int .i64 q.at_,.int .i64 q.kind,.int .i64 q.from_,.int .u8 q.d.z0,.int .u8 q.d.z1,.int .u8 q.d.z2,.int .u8 q.d.z3,.int .u8 q.d.z4,.int .u8 q.d.z5,.int .u8 q.d.z6,.int .u8 q.d.z7]] w fun e w'=>e=.returned (ru (Mx.atI l q.from_))∧Gq w w':=by
 have hlen:n≤maxLen:=hl.2.2.1;unfold maxLen at hlen;have HL:=aa hl;clear hl;by_cases hf0:q.from_<0
 ·have HS:=aa (Mx.ry (l:=l) (i:=q.from_) (.inl hf0))
  have hd0:decide (q.from_<0)=true:=by simpa using hf0
  go_enter Tryz.func201,Tryz.ntmps201;go_wp2_with fail;exact bodyPost_ret (v:=.tuple #[.agg #[.int .u8 0,.int .u8 0,.int .u8 0,.int .u8 0,.int .u8 0,.int .u8 0,.int .u8 0,.int .u8 0],.bool false]) (by simp[results,Tryz.results201,go_sem]) rfl ⟨by rw[HS.o]<;>rfl,((af _ _).alloc (by simp) _)⟩
 ·have hd0:decide (q.from_<0)=false:=by simpa using hf0
  by_cases hf1:(n:Int)≤q.from_
  ·have HS:=aa (Mx.ry (l:=l) (i:=q.from_) (.inr (by rw[HL.o.1];exact hf1)))
   have hd1:decide ((n:Int)≤q.from_)=true:=by simpa using hf1
   go_enter Tryz.func201,Tryz.ntmps201;go_wp2_with fail;exact bodyPost_ret (v:=.tuple #[.agg #[.int .u8 0,.int .u8 0,.int .u8 0,.int .u8 0,.int .u8 0,.int .u8 0,.int .u8 0,.int .u8 0],.bool false]) (by simp[results,Tryz.results201,go_sem]) rfl ⟨by rw[HS.o]<;>rfl,((af _ _).alloc (by simp) _)⟩
  ·have hd1:decide ((n:Int)≤q.from_)=false:=by simpa using hf1
   obtain⟨k,hk⟩:∃ k:Nat,q.from_=k:=⟨q.from_.toNat,by omega⟩
   obtain⟨b,off,y,rfl,hb,hy,e0,e1,e2,e3,e4,e5,e6,e7⟩:=HL.o.at_ k (by omega);have HS:=aa (show Mx.atI l (k:Int)=some y from Mx.rA rfl hy);have hkn:(k:Int)<n:=by omega
   rw[hk] at hd0 hd1 ⊢;clear hk hf0 hf1;go_enter Tryz.func201,Tryz.ntmps201;go_wp2_with fail;exact bodyPost_ret (v:=.tuple #[.agg #[.int .u8 y.z0,.int .u8 y.z1,.int .u8 y.z2,.int .u8 y.z3,.int .u8 y.z4,.int .u8 y.z5,.int .u8 y.z6,.int .u8 y.z7],.bool true]) (by simp[results,Tryz.results201,go_sem]) rfl ⟨by rw[HS.o]<;>rfl,((af _ _).alloc (by simp) _)⟩
theorem mG (a:Option Addr) (m c:Nat) (qs:List Pk) (n:Nat) (w:World) (hp:QL w a m qs) (hn:n≤1000) :
 Calls Tryz.prog 165 #[.slice a m c,.int .i64 (n:Int)] w fun e w'=>e=.returned (bt (Mx.qE n qs))∧Gq w w':=by
 have hlen:m≤maxLen:=hp.2.2.1;unfold maxLen at hlen;have HP:=aa hp;have HN:=aa hp.1;clear hp;go_enter Tryz.func165,Tryz.ntmps165;go_wp2_with fail;go_loopw [12] (fun t wr=>∃ k:Nat,k≤m∧t=.int .i64 (k:Int)∧Hid (Mx.qTo n qs k)∧Hid (Bx wr w.heap.size #[.int .i64 (Mx.fO qs k),.int .i64 (n:Int)] 285)∧Hid (Gq w wr)) (fun t _=>m-(intOf t).toNat)
 case atStart=>exact⟨0,by omega,rfl,Mx.sP _ _,Bx.new _ _ _,af _ _⟩
 case round =>
  obtain⟨k,hk,rfl,hR,hX,hB⟩:=hrel;by_cases hlt:k<m
  ·obtain⟨b,off,p,hab,_,hpk,e0,e1,e2,e3,e4,e5,e6,e7,e8,e9,e10⟩:=(HP.o.later hB.o).at_ k hlt
   subst hab;have HPK:=aa hpk;have HNX:=aa (Mx.kJ hpk);have HNN:=aa (Mx.sN hR.o);obtain⟨z,hz⟩:∃ z:Int,Hid (z=p.at_):=⟨_,rfl⟩
   obtain⟨kd,hkd⟩:∃ kd:Int,Hid (kd=p.kind):=⟨_,rfl⟩
   obtain⟨nx,hnx⟩:∃ nx:Int,Hid (nx=Mx.fO qs k):=⟨_,rfl⟩
   rw[←hz.o] at e0 HNX;rw[←hkd.o] at e1;rw[←hnx.o] at hX HNN;clear hpk;obtain⟨w1,hw1⟩:∃ w1:World,Hid (w1=wr.alloc (.cells #[.int .i64 z,.int .i64 kd,.int .i64 p.from_,.int .u8 p.d.z0,.int .u8 p.d.z1,.int .u8 p.d.z2,.int .u8 p.d.z3,.int .u8 p.d.z4,.int .u8 p.d.z5,.int .u8 p.d.z6,.int .u8 p.d.z7] 244)):=⟨_,rfl⟩
   have X1:=aa (show Bx w1 w.heap.size #[.int .i64 nx,.int .i64 (n:Int)] 285 by rw[hw1.o];exact hX.o.alloc _);have P1:=aa (show Bx w1 wr.heap.size #[.int .i64 z,.int .i64 kd,.int .i64 p.from_,.int .u8 p.d.z0,.int .u8 p.d.z1,.int .u8 p.d.z2,.int .u8 p.d.z3,.int .u8 p.d.z4,.int .u8 p.d.z5,.int .u8 p.d.z6,.int .u8 p.d.z7] 244 by rw[hw1.o];exact Bx.new _ _ _);have B1:=aa (show Gq w w1 by rw[hw1.o];exact hB.o.alloc hB.o.size _);have hsz:=hX.o.lt;go_wp2_with fail;rw[←hw1.o];by_cases hg:nx≤z∧z<(n:Int)
   ·refine(ti w.heap.size nx n z w1 X1.o hg.1 hg.2 (by omega) HNN.o).mono ?_
    rintro e w2 ⟨rfl,rfl⟩;have X2:=aa (show Bx (w1.setCell ⟨w.heap.size,0,none⟩ (.int .i64 (z+1))) w.heap.size #[.int .i64 (Mx.fO qs (k+1)),.int .i64 (n:Int)] 285 by rw[HNX.o];exact X1.o.set 0 _);have B2:=aa (B1.o.setCell (p:=⟨w.heap.size,0,none⟩) (Gi w.heap.size) (.int .i64 (z+1)));have P2:=aa (P1.o.other ⟨w.heap.size,0,none⟩ (.int .i64 (z+1)) (by show wr.heap.size≠w.heap.size;omega));obtain⟨w2,hw2⟩:∃ w2:World,Hid (w2=w1.setCell ⟨w.heap.size,0,none⟩ (.int .i64 (z+1))):=⟨_,rfl⟩
    rw[←hw2.o] at X2 B2 P2 ⊢;clear e0 e1 e2 e3 e4 e5 e6 e7 e8 e9 e10;have c1:w2.cell? ⟨wr.heap.size,1,none⟩=some (.int .i64 kd):=P2.o.cell 1;by_cases hq:0≤kd∧kd<4
    ·have HR2:=aa (Mx.sO hR.o HPK.o (by rw[←hnx.o,Mx.qOk,←hz.o,←hkd.o];simp;omega))
     have hd1:decide (kd<0)=false:=by simp;omega
     have hd2:decide (4≤kd)=false:=by simp;omega
     go_wp2_with fail;go_roundw
     case rel=>exact⟨k+1,by omega,by go_num,HR2,X2,B2⟩
     case measure=>simp[intOf];omega
    ·have HF:=aa (Mx.zM HPK.o (by rw[←hnx.o,Mx.qOk,←hz.o,←hkd.o];simp;omega):Mx.qE n qs=1)
     by_cases h0:kd<0
     ·have hd1:decide (kd<0)=true:=by simpa using h0
      go_wp2_with fail;go_ret;exact⟨by rw[HF.o]<;>rfl,B2.o⟩
     ·have hd1:decide (kd<0)=false:=by simpa using h0
      have hd2:decide (4≤kd)=true:=by simp;omega
      go_wp2_with fail;go_ret;exact⟨by rw[HF.o]<;>rfl,B2.o⟩
   ·have HF:=aa (Mx.zM HPK.o (by rw[←hnx.o,Mx.qOk,←hz.o,←hkd.o];simp;omega):Mx.qE n qs=1)
    refine(vh w.heap.size nx n z w1 X1.o (by omega)).mono ?_;rintro e w2 ⟨rfl,rfl⟩;clear e0 e1 e2 e3 e4 e5 e6 e7 e8 e9 e10 hg;go_wp2_with fail;go_ret;exact⟨by rw[HF.o]<;>rfl,B1.o⟩
  ·have HF:=aa (Mx.zL hR.o (by have:=HN.o;omega))
   go_wp2_with fail;go_ret;exact⟨by rw[HF.o]<;>rfl,hB.o⟩
theorem au.room {w:World} {base:Nat} {v:Value} {l:List B8} (h:au w base v l):∃ a c,v=.slice a l.length c∧l.length≤c∧BL w a l.length l:=by
 obtain⟨a,c,hv,hc,hr,_⟩:=aA h;exact⟨a,c,hv,hc,rfl,hr⟩
theorem C7 (ah ap:Option Addr) (nh ch m cm:Nat) (had:List B8) (qs:List Pk) (w:World) (hh:BL w ah nh had) (hp:QL w ap m qs) (hc:nh≤ch) (hE:Mx.bT had=0) :
 Calls Tryz.prog 113 #[.slice ah nh ch,.slice ap m cm] w fun e w'=>∃ a' c',e=.returned (.tuple #[.slice a' (Mx.bI had qs).length c',.nilIface])∧Hid (au w' w.heap.size (.slice a' (Mx.bI had qs).length c') (Mx.bI had qs))∧Hid (Gq w w'):=by
 have hlen:m≤maxLen:=hp.2.2.1;unfold maxLen at hlen;have HH:=aa hh;have HP:=aa hp;have H8:=aa (show nh≤8 by have h1:=((Mx.jf had).1 hE).1;have h2:=hh.1;omega);have HE0:=aa hE;have HV:=aa (show bt (Mx.bT had)=.nilIface by rw[hE];rfl);clear hh hp hE;go_enter Tryz.func113,Tryz.ntmps113;go_wp2_with fail;refine(kl ah nh ch had w HH.o hc).mono ?_;rintro e w1 ⟨rfl,hb1⟩;rw[HV.o];have B1:=aa hb1;clear hb1;go_wp2_with fail;refine(iv ah nh ch had w1 (HH.o.later B1.o) (by have:=H8.o;omega)).mono ?_;rintro e w2 ⟨v2,rfl,ho2,hb2⟩;have B2:=aa (B1.o.trans (hb2.mono B1.o.size));obtain⟨a2,c2,rfl,_⟩:=ho2.room;have L2:=aa (show au w2 w.heap.size _ had from World.ownsRow.mono ho2 B1.o.size);clear hb2 ho2;go_wp2_with fail;go_loopw [7,21] (fun v t wr=>∃ (k r:Nat) (a':Option Addr) (c':Nat),k≤m∧t=.int .i64 (k:Int)∧v=.slice a' r c'∧Hid (r=(Mx.bI had (qs.take k)).length)∧Hid (au wr w.heap.size (.slice a' r c') (Mx.bI had (qs.take k)))∧Hid (Gq w wr)) (fun _ t _=>m-(intOf t).toNat)
 case atStart=>exact⟨0,had.length,a2,c2,by omega,rfl,rfl,aa rfl,L2,B2⟩
 case round =>
  obtain⟨k,r,a',c',hk,rfl,rfl,hr,hL,hB⟩:=hrel;by_cases hlt:k<m
  ·obtain⟨b,off,q,rfl,hb,hp,e0,e1,e2,e3,e4,e5,e6,e7,e8,e9,e10⟩:=(HP.o.later hB.o).at_ k hlt
   have HK:=aa hp;clear hp;have b5:=aa (af wr (.cells #[.int .i64 q.at_,.int .i64 q.kind,.int .i64 q.from_,.int .u8 q.d.z0,.int .u8 q.d.z1,.int .u8 q.d.z2,.int .u8 q.d.z3,.int .u8 q.d.z4,.int .u8 q.d.z5,.int .u8 q.d.z6,.int .u8 q.d.z7] 244));by_cases hkd:q.kind=3
   ·have HE:=aa (show Mx.bI had (qs.take (k+1))=Mx.bd (Mx.bI had (qs.take k)) q.d by rw[Mx.nI HK.o,if_pos hkd])
    rw[hkd] at e1;obtain⟨w5,hw5⟩:∃ w5:World,Hid (w5=wr.alloc (.cells #[.int .i64 q.at_,.int .i64 3,.int .i64 q.from_,.int .u8 q.d.z0,.int .u8 q.d.z1,.int .u8 q.d.z2,.int .u8 q.d.z3,.int .u8 q.d.z4,.int .u8 q.d.z5,.int .u8 q.d.z6,.int .u8 q.d.z7] 244)):=⟨_,rfl⟩
    go_wp2_with fail;rw[←hw5.o];rw[hkd,←hw5.o] at b5;have L5:=aa (show au w5 w.heap.size _ (Mx.bI had (qs.take k)) from bm hL.o b5.o);have B5:=aa (hB.o.trans (b5.o.mono hB.o.size));clear e0 e1 e2 e3 e4 e5 e6 e7 e8 e9 e10 b5;obtain⟨ax,cx,hvx,hrc,hLx⟩:=L5.o.room;rw[←hr.o] at hvx hrc hLx;obtain⟨rfl,rfl⟩:a'=ax∧c'=cx:=by simpa using hvx
    refine(Ah a' r c' (Mx.bI had (qs.take k)) q.d w5 hLx hrc (Mx.pL HE0.o _)).mono ?_;clear hvx hrc hLx;rintro e w6 ⟨g6,c6,rfl,ho6,hb6⟩;have B6:=aa (B5.o.trans (hb6.o.mono B5.o.size));have L7:=aa (show au w6 w.heap.size _ (Mx.bd (Mx.bI had (qs.take k)) q.d) from World.ownsRow.mono ho6.o B5.o.size);clear hb6 ho6;obtain⟨T,hT⟩:∃ T:Nat,Hid (T=(Mx.bd (Mx.bI had (qs.take k)) q.d).length):=⟨_,rfl⟩
    rw[←hT.o] at L7 ⊢;go_wp2_with fail;go_roundw
    case rel=>exact⟨k+1,T,_,c6,by omega,by go_num,rfl,by rw[HE.o];exact hT,by rw[HE.o];exact L7,B6⟩
    case measure=>simp[intOf];omega
   ·have HE:=aa (show Mx.bI had (qs.take (k+1))=Mx.bI had (qs.take k) by rw[Mx.nI HK.o,if_neg hkd])
    have hd3:(q.kind==3)=false:=by simpa using hkd
    obtain⟨w5,hw5⟩:∃ w5:World,Hid (w5=wr.alloc (.cells #[.int .i64 q.at_,.int .i64 q.kind,.int .i64 q.from_,.int .u8 q.d.z0,.int .u8 q.d.z1,.int .u8 q.d.z2,.int .u8 q.d.z3,.int .u8 q.d.z4,.int .u8 q.d.z5,.int .u8 q.d.z6,.int .u8 q.d.z7] 244)):=⟨_,rfl⟩
    go_wp2_with fail;rw[←hw5.o];rw[←hw5.o] at b5;have L5:=aa (show au w5 w.heap.size _ (Mx.bI had (qs.take k)) from bm hL.o b5.o);have B5:=aa (hB.o.trans (b5.o.mono hB.o.size));go_roundw
    case rel=>exact⟨k+1,r,a',c',by omega,by go_num,rfl,by rw[HE.o];exact hr,by rw[HE.o];exact L5,B5⟩
    case measure=>simp[intOf];omega
  ·have HT:=aa (show qs.take k=qs from Gj (by have:=HP.o.1;omega))
   go_wp2_with fail;rw[HT.o] at hr hL;have hr':=hr.o;subst hr';exact bodyPost_ret (v:=.tuple #[.slice a' (Mx.bI had qs).length c',.nilIface]) (by simp[results,Tryz.results113,go_sem]) rfl ⟨a',c',rfl,hL,hB⟩
section
variable {w w5 w6:World} {b1 b2 e1 e2 s1 s2 n1 n2:Nat} {v1 v2:Value} {x1 x2:List Value}
theorem zi (h1:w.ownsRow b1 e1 s1 v1 n1 x1) (h2:w.ownsRow b2 e2 s2 v2 n2 x2) (hne:e1≠e2):v1.ownBlock=none∨v1.ownBlock≠v2.ownBlock:=by
 rcases h1.2 with ⟨hv,_⟩|⟨g1,cap1,cur1,hv1,_,hh1,_⟩
 ·left
  rw[hv];rfl
 ·right
  rcases h2.2 with ⟨hv,_⟩|⟨g2,cap2,cur2,hv2,_,hh2,_⟩
  ·rw[hv,hv1]
   simp[Value.ownBlock]
  ·rw[hv1,hv2]
   intro e';have e3:g1=g2:=Gg e';subst e3;rw[hh1] at hh2;cases hh2
   exact hne rfl
theorem kG {w':World} (h1:w.ownsRow b1 e1 s1 v1 n1 x1) (h2:w.ownsRow b2 e2 s2 v2 n2 x2) (hne:e1≠e2) (hg:w.grownBy w' v2.ownBlock):w'.ownsRow b1 e1 s1 v1 n1 x1 :=
 World.ownsRow.kept h1 hg (zi h1 h2 hne)
theorem iu {ops:Array Oper} {rest:List Oper} {o:Oper} {a:Act} {Q:Exit→Act→World→Prop} (hgd:o.guard=none) (s x:Operand)
 (ho:o.op=.call {callee:=.builtin .append,args:=#[s,x],argTypes:=#[47,47]}) (base:Nat) (l:List Int) (hown:aV w base (a.eval s) l)
 (z:Int) (hx:a.eval x=.slice (some ⟨w.heap.size,0,none⟩) 1 1) (h63:l.length≤1000000) (hbase:base≤w.heap.size)
 (h:∀ ad c w',aV w' base (.slice (some ad) (l.length+1) c) (l++[z])→w.grownBy w' (a.eval s).ownBlock→wpList Tryz.prog ops Q rest (a.put o.dst (.slice (some ad) (l.length+1) c)) w') :
 wpList Tryz.prog ops Q (o::rest) a (w.alloc (.cells #[.int .i64 z] 3)):=by
 obtain⟨i0,hi,hz0,hz1,hz2⟩:=info_parts Tryz.info3;refine wpList_append_own _ hgd s x 47 ho base 3 i0 (.int .i64 0) 1 8 Tryz.underlying47 hi hz0 hz1 hz2 rfl (by decide) (a.eval s) l.length (l.map (Value.int .i64)) rfl (World.ownsRow.alloc hown _) ⟨w.heap.size,0,none⟩ 1 1 [.int .i64 z] hx (by simp) ?_ ?_ (by unfold maxLen;omega) (by omega) (by simp;omega) ?_
 ·intro j u hj
  match j,hj with
  | 0, hj => simp at hj; subst hj; simp [Addr.add]
 ·intro u hu
  simp at hu;subst hu;rfl
 ·intro v' w' hown' hg _
  have hI:aV w' base v' (l++[z]):=by
   unfold aV;rw[Ge,List.map_append];exact hown'
  have hg':w.grownBy w' (a.eval s).ownBlock:=⟨hg.os,hg.tape,hg.output,by have:=hg.size;simp at this;omega,fun k hk hne=>(hg.block k (by simp;omega) hne).trans (Below.heap_alloc w _ k hk)⟩
  rcases hown'.2 with ⟨_,hz⟩|⟨g,cap,cur,rfl,hbg,_⟩
  ·simp at hz
  ·exact h _ _ w' hI hg'
theorem bg.nil (w:World) (base:Nat):bg w base (.slice none 0 0) []:=World.ownsRow_nil w base 114 9
def Fo (fn:Nat) (recv:Value) (a ah:Option Addr) (n nh:Nat) (peer had:List B8) (q:Pk):Prop:=∀ W:World,BL W a n peer→BL W ah nh had →
 Calls Tryz.prog fn #[recv,.agg #[.int .i64 q.at_,.int .i64 q.kind,.int .i64 q.from_,.int .u8 q.d.z0,.int .u8 q.d.z1,.int .u8 q.d.z2,.int .u8 q.d.z3,.int .u8 q.d.z4,.int .u8 q.d.z5,.int .u8 q.d.z6,.int .u8 q.d.z7]] W fun e w'=>∃ (d:B8) (ok:Bool),e=.returned (.tuple #[.agg #[.int .u8 d.z0,.int .u8 d.z1,.int .u8 d.z2,.int .u8 d.z3,.int .u8 d.z4,.int .u8 d.z5,.int .u8 d.z6,.int .u8 d.z7],.bool ok])∧Hid (d=(Mx.cf q peer had).getD zB∧ok=(Mx.cf q peer had).isSome)∧Hid (Gq W w')
theorem CC (o:Option B8):∃ (d:B8) (ok:Bool),ru o=.tuple #[.agg #[.int .u8 d.z0,.int .u8 d.z1,.int .u8 d.z2,.int .u8 d.z3,.int .u8 d.z4,.int .u8 d.z5,.int .u8 d.z6,.int .u8 d.z7],.bool ok]∧Hid (d=o.getD zB∧ok=o.isSome):=by
 cases o with
 | none => exact ⟨zB, false, rfl, rfl, rfl⟩
 | some d => exact ⟨d, true, rfl, rfl, rfl⟩
theorem kv {fn:Nat} {recv:Value} {W:World} {q:Pk} {peer had:List B8} (h:Calls Tryz.prog fn #[recv,.agg #[.int .i64 q.at_,.int .i64 q.kind,.int .i64 q.from_,.int .u8 q.d.z0,.int .u8 q.d.z1,.int .u8 q.d.z2,.int .u8 q.d.z3,.int .u8 q.d.z4,.int .u8 q.d.z5,.int .u8 q.d.z6,.int .u8 q.d.z7]] W fun e w'=>e=.returned (ru (Mx.cf q peer had))∧Gq W w') :
 Calls Tryz.prog fn #[recv,.agg #[.int .i64 q.at_,.int .i64 q.kind,.int .i64 q.from_,.int .u8 q.d.z0,.int .u8 q.d.z1,.int .u8 q.d.z2,.int .u8 q.d.z3,.int .u8 q.d.z4,.int .u8 q.d.z5,.int .u8 q.d.z6,.int .u8 q.d.z7]] W fun e w'=>∃ (d:B8) (ok:Bool),e=.returned (.tuple #[.agg #[.int .u8 d.z0,.int .u8 d.z1,.int .u8 d.z2,.int .u8 d.z3,.int .u8 d.z4,.int .u8 d.z5,.int .u8 d.z6,.int .u8 d.z7],.bool ok])∧Hid (d=(Mx.cf q peer had).getD zB∧ok=(Mx.cf q peer had).isSome)∧Hid (Gq W w'):=by
 refine h.mono ?_;rintro e w' ⟨rfl,hb⟩;obtain⟨d,ok,h1,h2⟩:=CC (Mx.cf q peer had);exact⟨d,ok,by rw[h1],h2,hb⟩
theorem AX (a ah:Option Addr) (n c nh ch:Nat) (peer had:List B8) (q:Pk) (h0:0≤q.kind) (h4:q.kind<4) :
 ∃ (kd ty : Nat) (v recv : Value) (fn : Nat), q.kind = (kd : Int) ∧ kd < 4 ∧ ((#[.iface 287 (.agg #[]), .iface 288 (.slice a n c), .iface 288 (.slice ah nh ch), .iface 289 (.agg #[])] : Array Value)[kd]? = some (.iface ty v)) ∧ (∀ W : World, (method 426 ty v "stillwater/plan.hear").run Tryz.prog W = .ok (fn, recv) W) ∧ (∀ (xs : Array Value) (W : World), (callFunc fn xs).run Tryz.prog W = .ok (.enter fn xs) W) ∧ Hid (Fo fn recv a ah n nh peer had q) := by
 rcases(show q.kind=0∨q.kind=1∨q.kind=2∨q.kind=3 by omega) with hkd|hkd|hkd|hkd
 ·exact⟨0,287,.agg #[],.agg #[],199,hkd,by omega,rfl,fun _=>by kernel_rfl,fun _ _=>by kernel_rfl,fun W _ _=>kv (by rw[Mx.xp hkd];exact rT q W)⟩
 ·exact⟨1,288,.slice a n c,.slice a n c,201,hkd,by omega,rfl,fun _=>by kernel_rfl,fun _ _=>by kernel_rfl,fun W h _=>kv (by rw[Mx.xo (by omega) (by omega) (by omega)];exact mg q a n c peer W h)⟩
 ·exact⟨2,288,.slice ah nh ch,.slice ah nh ch,201,hkd,by omega,rfl,fun _=>by kernel_rfl,fun _ _=>by kernel_rfl,fun W _ h=>kv (by rw[Mx.zU hkd];exact mg q ah nh ch had W h)⟩
 ·exact⟨3,289,.agg #[],.agg #[],204,hkd,by omega,rfl,fun _=>by kernel_rfl,fun _ _=>by kernel_rfl,fun W _ _=>kv (by rw[Mx.zV hkd];exact rS q W)⟩
theorem Al (h:Below (w5.alloc (.cells #[.int .u8 0,.int .u8 0,.int .u8 0,.int .u8 0,.int .u8 0,.int .u8 0,.int .u8 0,.int .u8 0] 33)).drew.heap.size (w5.alloc (.cells #[.int .u8 0,.int .u8 0,.int .u8 0,.int .u8 0,.int .u8 0,.int .u8 0,.int .u8 0,.int .u8 0] 33)).drew w6):Gq w5 w6∧Gr w6 w5.heap.size :=
 ⟨(af w5 (.cells #[.int .u8 0,.int .u8 0,.int .u8 0,.int .u8 0,.int .u8 0,.int .u8 0,.int .u8 0,.int .u8 0] 33)).drew.trans (h.mono (by simp)),(Bx.dj w5 #[.int .u8 0,.int .u8 0,.int .u8 0,.int .u8 0,.int .u8 0,.int .u8 0,.int .u8 0,.int .u8 0] 33).later h (by simp)⟩
theorem CD (h:Below w5.drew.heap.size w5.drew w6):Gq w5 w6:=(Below.refl w5.heap.size w5).drew.trans h
theorem CE {g:Nat} (h:Gr w g) (d:B8):Gs (aR w g 0 d) g d:=by
 have h8:=(((((((h.set 0 (.int .u8 d.z0)).set 1 (.int .u8 d.z1)).set 2 (.int .u8 d.z2)).set 3 (.int .u8 d.z3)).set 4 (.int .u8 d.z4)).set 5 (.int .u8 d.z5)).set 6 (.int .u8 d.z6)).set 7 (.int .u8 d.z7);simp only[List.setIfInBounds_toArray,List.set_cons_zero,List.set_cons_succ] at h8;unfold aR;simp only[Nat.zero_add];exact h8
theorem xH (ap a ah:Option Addr) (m cm n c nh ch:Nat) (qs:List Pk) (peer had:List B8) (w:World) (hp:QL w ap m qs) (hq:BL w a n peer) (hh:BL w ah nh had) (hc:nh≤ch) (hn:n≤1000) (hm:m≤1000) (h0:Mx.gD n had=0) (hE:Mx.qE n qs=0) :
 Calls Tryz.prog 162 #[.slice ap m cm,.slice a n c,.slice ah nh ch] w fun e w'=>∃ a1 c1 a2 c2,e=.returned (.tuple #[.slice a1 (Mx.aI qs peer had).length c1,.slice a2 (Mx.dJ qs peer had).length c2,.nilIface])∧Hid (bg w' w.heap.size (.slice a1 (Mx.aI qs peer had).length c1) (Mx.aI qs peer had))∧Hid (aV w' w.heap.size (.slice a2 (Mx.dJ qs peer had).length c2) (Mx.dJ qs peer had))∧Hid (Gq w w'):=by
 have HH:=aa hh;have HP:=aa hp;have HQ:=aa hq;have H0:=aa (show bt (Mx.gD n had)=.nilIface by rw[h0];rfl);have HE0:=aa hE;have H1:=aa (show bt (Mx.qE n qs)=.nilIface by rw[hE];rfl);clear hh hp hq hE h0;go_enter Tryz.func162,Tryz.ntmps162;go_wp2_with fail;refine(kT a ah n c nh ch had w HH.o hc).mono ?_;rintro e w1 ⟨rfl,hb1⟩;rw[H0.o];have B1:=aa hb1;clear hb1;go_wp2_with fail;refine(mG ap m cm qs n w1 (HP.o.later B1.o) hn).mono ?_;rintro e w2 ⟨rfl,hb2⟩;rw[H1.o];have B2:=aa (B1.o.trans (hb2.mono B1.o.size));clear hb2;go_wp2_with fail;refine(oA a ah n c nh ch w2).mono ?_;rintro e w3 ⟨rfl,hb3⟩;have B3:=aa (B2.o.trans (hb3.mono B2.o.size));clear hb3;go_wp2_with fail;have K0:=aa (Bx.new w3 #[.iface 287 (.agg #[]),.iface 288 (.slice a n c),.iface 288 (.slice ah nh ch),.iface 289 (.agg #[])] 271);have B4:=aa (B3.o.alloc B3.o.size (.cells #[.iface 287 (.agg #[]),.iface 288 (.slice a n c),.iface 288 (.slice ah nh ch),.iface 289 (.agg #[])] 271));obtain⟨w4,hw4⟩:∃ w4:World,Hid (w4=w3.alloc (.cells #[.iface 287 (.agg #[]),.iface 288 (.slice a n c),.iface 288 (.slice ah nh ch),.iface 289 (.agg #[])] 271)):=⟨_,rfl⟩
 rw[←hw4.o] at K0 B4 ⊢;go_loopw [6,7,32] (fun v u t wr=>∃ (k r s:Nat) (a1:Option Addr) (c1:Nat) (a2:Option Addr) (c2:Nat),k≤m∧t=.int .i64 (k:Int)∧v=.slice a1 r c1∧u=.slice a2 s c2∧Hid (r=(Mx.aI (qs.take k) peer had).length)∧Hid (s=(Mx.dJ (qs.take k) peer had).length)∧Hid (bg wr (w3.heap.size+1) (.slice a1 r c1) (Mx.aI (qs.take k) peer had))∧Hid (aV wr (w3.heap.size+1) (.slice a2 s c2) (Mx.dJ (qs.take k) peer had))∧Hid (Bx wr w3.heap.size #[.iface 287 (.agg #[]),.iface 288 (.slice a n c),.iface 288 (.slice ah nh ch),.iface 289 (.agg #[])] 271)∧Hid (Gq w wr)) (fun _ _ t _=>m-(intOf t).toNat)
 case atStart=>exact⟨0,0,0,none,0,none,0,by omega,rfl,rfl,rfl,aa (by simp[Mx.aI]),aa (by simp[Mx.dJ]),bg.nil _ _,aV.nil _ _,K0,B4⟩
 case round =>
  obtain⟨k,r,s,a1,c1,a2,c2,hk,rfl,rfl,rfl,hr,hs,hO,hI,hX,hB⟩:=hrel;by_cases hlt:k<m
  ·obtain⟨b,off,q,rfl,hb,hp,e0,e1,e2,e3,e4,e5,e6,e7,e8,e9,e10⟩:=(HP.o.later hB.o).at_ k hlt
   have HK:=aa hp;obtain⟨ha0,ha1,hq0,hq4⟩:=Mx.FE HE0.o hp;clear hp;have b5:=aa (af wr (.cells #[.int .i64 q.at_,.int .i64 q.kind,.int .i64 q.from_,.int .u8 q.d.z0,.int .u8 q.d.z1,.int .u8 q.d.z2,.int .u8 q.d.z3,.int .u8 q.d.z4,.int .u8 q.d.z5,.int .u8 q.d.z6,.int .u8 q.d.z7] 244));have R5:=aa (show Bx (wr.alloc (.cells #[.int .i64 q.at_,.int .i64 q.kind,.int .i64 q.from_,.int .u8 q.d.z0,.int .u8 q.d.z1,.int .u8 q.d.z2,.int .u8 q.d.z3,.int .u8 q.d.z4,.int .u8 q.d.z5,.int .u8 q.d.z6,.int .u8 q.d.z7] 244)) wr.heap.size q.arr 244 from Bx.new _ _ _);have hx3:=hX.o.lt;go_wp2_with fail;obtain⟨w5,hw5⟩:∃ w5:World,Hid (w5=wr.alloc (.cells #[.int .i64 q.at_,.int .i64 q.kind,.int .i64 q.from_,.int .u8 q.d.z0,.int .u8 q.d.z1,.int .u8 q.d.z2,.int .u8 q.d.z3,.int .u8 q.d.z4,.int .u8 q.d.z5,.int .u8 q.d.z6,.int .u8 q.d.z7] 244)):=⟨_,rfl⟩
   rw[←hw5.o] at b5 R5 ⊢;have X5:=aa (hX.o.later b5.o hX.o.lt);have O5:=aa (show bg w5 (w3.heap.size+1) _ _ from bm hO.o b5.o);have I5:=aa (show aV w5 (w3.heap.size+1) _ _ from bm hI.o b5.o);have B5:=aa (hB.o.trans (b5.o.mono hB.o.size));have g5:wr.heap.size<w5.heap.size:=R5.o.lt;clear e0 e1 e2 e3 e4 e5 e6 e7 e8 e9 e10 b5;go_cut [12,13] (fun s12 s13 wx=>∃ (g:Nat) (d:B8) (ok:Bool),s12=.pointer (some ⟨g,0,none⟩)∧s13=.bool ok∧Hid (d=(Mx.cf q peer had).getD zB∧ok=(Mx.cf q peer had).isSome)∧Hid (Gs wx g d)∧Hid (Gq w5 wx))
   case first =>
    obtain⟨kd,ty,v,recv,fn,hkd,hkd4,hxv,hmt,hcf,HC⟩:=AX a ah n c nh ch peer had q hq0 hq4;have xk:w5.cell? ⟨w3.heap.size,kd,none⟩=some (.iface ty v):=(X5.o.cell kd).trans hxv;obtain⟨q0,q1,q2,q3,q4,q5,q6,q7,q8,q9,q10⟩:=Bx.dS R5.o;have HKD:=aa hkd;rw[hkd] at q1;have hkd0:(kd:Int)<4:=by omega
    have g35:w3.heap.size<w5.heap.size:=by omega
    have HC':=aa (fun W hw1 hw2=>by have h:=HC.o W hw1 hw2;rw[HKD.o] at h;exact h);clear hb hq0 hq4 ha0 ha1 hk hlt hx3 hkd hxv HC;go_region_with (
     refine(HC'.o _ ?h1 ?h2).mono ?_
     (case h1=>first|exact(HQ.o.later B5.o).later (Below.refl _ _).drew|exact(HQ.o.later B5.o).later (af _ _).drew)
     (case h2=>first|exact(HH.o.later B5.o).later (Below.refl _ _).drew|exact(HH.o.later B5.o).later (af _ _).drew)
     rintro e w6 ⟨d,ok,rfl,hd,hb6⟩;first
     |(have hk6:=aa (Al hb6.o);obtain⟨z0,z1,z2,z3,z4,z5,z6,z7⟩:=Bx.eight (x:=zB) hk6.o.2;have rz:=hk6.o.2.frozen)
     |(have hk6:=aa (CD hb6.o)))
    all_goals go_wp2_with fail
    all_goals go_meet
    all_goals refine⟨_,d,ok,rfl,rfl,hd,?_,?_⟩
    all_goals first
     | exact CE hk6.o.2 d
     | exact bP hk6.o.1 (Gi _) 0 d
     | exact Bx.new _ _ _
     | exact hk6.o.alloc hk6.o.size _
   case rest =>
   obtain⟨g,d,ok,rfl,rfl,hd,hbx,hb6⟩:=hcut;have R6:=aa (R5.o.later hb6.o R5.o.lt);have X6:=aa (X5.o.later hb6.o X5.o.lt);have O6:=aa (show bg wc (w3.heap.size+1) _ (Mx.aI (qs.take k) peer had) from bm O5.o hb6.o);have I6:=aa (show aV wc (w3.heap.size+1) _ (Mx.dJ (qs.take k) peer had) from bm I5.o hb6.o);have B6:=aa (B5.o.trans (hb6.o.mono B5.o.size));have S6:=aa (show w3.heap.size+1≤wc.heap.size from X6.o.lt);have L6:=aa (show(Mx.aI (qs.take k) peer had).length≤1000∧(Mx.dJ (qs.take k) peer had).length≤1000 by have h1:=Mx.BS (qs.take k) peer had;have h2:=Mx.Bj (qs.take k) peer had;rw[Gk] at h1 h2;omega);have c0:wc.cell? ⟨wr.heap.size,0,none⟩=some (.int .i64 q.at_):=R6.o.cell 0;obtain⟨d0,d1,d2,d3,d4,d5,d6,d7⟩:=hbx.o.eight;clear hb ha0 ha1 hq0 hq4 hx3 g5;cases ok with
   | true =>
    have HS:=aa (show Mx.cf q peer had=some d by
     obtain⟨h1,h2⟩:=hd.o;cases hs:Mx.cf q peer had with
     | none => rw [hs] at h2; exact absurd h2 (by simp)
     | some y => rw [hs] at h1; rw [h1]; rfl)
    have HE:=aa (Mx.zJ HK.o HS.o);go_wp2_with (at_builtin;refine eA rfl _ _ rfl (w3.heap.size+1) (Mx.aI (qs.take k) peer had) ?o1 ⟨q.at_,d⟩ ?o2 ?o3 ?o4 ?_);case o1=>exact O6.o
    case o2=>rfl
    case o3=>have:=L6.o.1;omega
    case o4=>exact S6.o
    intro ad cc w7 hown hgr;have b7:=aa ((Below.refl (w3.heap.size+1) wc).grown hgr S6.o (fun k hk=>(World.ownsRow.lt O6.o k hk).1));have O7:=aa hown;have I7:=aa (show aV w7 (w3.heap.size+1) _ (Mx.dJ (qs.take k) peer had) from kG I6.o O6.o (by decide) hgr);have X7:=aa (X6.o.later b7.o (Nat.lt_succ_self _));have B7:=aa (B6.o.trans (b7.o.mono (Nat.le_succ_of_le B3.o.size)));rw[←hr.o] at O7 ⊢;clear hown hgr;go_wp2_with fail;go_roundw
    case rel=>exact⟨k+1,r+1,s,some ad,cc,a2,c2,by omega,by go_num,rfl,rfl,by rw[HE.o.1,Ge,←hr.o];exact aa rfl,by rw[HE.o.2];exact hs,by rw[HE.o.1];exact O7,by rw[HE.o.2];exact I7,X7,B7⟩
    case measure=>simp[intOf];omega
   | false =>
    have HS:=aa (show Mx.cf q peer had=none by
     obtain⟨h1,h2⟩:=hd.o;cases hs:Mx.cf q peer had with
     | none => rfl
     | some y => rw [hs] at h2; exact absurd h2 (by simp))
    have HE:=aa (Mx.zI HK.o HS.o);go_wp2_with (at_builtin;refine iu rfl _ _ rfl (w3.heap.size+1) (Mx.dJ (qs.take k) peer had) ?o1 q.at_ ?o2 ?o3 ?o4 ?_);case o1=>exact I6.o
    case o2=>rfl
    case o3=>have:=L6.o.2;omega
    case o4=>exact S6.o
    intro ad cc w7 hown hgr;have b7:=aa ((Below.refl (w3.heap.size+1) wc).grown hgr S6.o (fun k hk=>(World.ownsRow.lt I6.o k hk).1));have I7:=aa hown;have O7:=aa (show bg w7 (w3.heap.size+1) _ (Mx.aI (qs.take k) peer had) from kG O6.o I6.o (by decide) hgr);have X7:=aa (X6.o.later b7.o (Nat.lt_succ_self _));have B7:=aa (B6.o.trans (b7.o.mono (Nat.le_succ_of_le B3.o.size)));rw[←hs.o] at I7 ⊢;clear hown hgr;go_wp2_with fail;go_roundw
    case rel=>exact⟨k+1,r,s+1,a1,c1,some ad,cc,by omega,by go_num,rfl,rfl,by rw[HE.o.1];exact hr,by rw[HE.o.2,Ge,←hs.o];exact aa rfl,by rw[HE.o.1];exact O7,by rw[HE.o.2];exact I7,X7,B7⟩
    case measure=>simp[intOf];omega
  ·have HT:=aa (show qs.take k=qs from Gj (by have:=HP.o.1;omega))
   go_wp2_with fail;rw[HT.o] at hr hs hO hI;have hr':=hr.o;have hs':=hs.o;subst hr' hs';refine bodyPost_ret (v:=.tuple #[.slice a1 (Mx.aI qs peer had).length c1,.slice a2 (Mx.dJ qs peer had).length c2,.nilIface]) (by simp[results,Tryz.results162,go_sem]) rfl ⟨a1,c1,a2,c2,rfl,aa (World.ownsRow.mono hO.o (Nat.le_succ_of_le B3.o.size)),aa (World.ownsRow.mono hI.o (Nat.le_succ_of_le B3.o.size)),hB⟩
end
end Go.Proofs.YtbicgjafjjihdaaGreatDoor
