/- Part. -/
import Derived.Deep.AppendLies
import Derived.Test.YtbicgjafjjihdaaGreatZ8
set_option maxHeartbeats 16000000
set_option maxRecDepth 100000
namespace Go.Proofs.YtbicgjafjjihdaaGreat
open Go.RowKit
section
variable {S P:Nat→Prop} {w w':World} {n k:Nat} {a:Option Addr} {l:List Int}
structure Ext (S:Nat→Prop) (w w':World):Prop where
 size:w.heap.size≤w'.heap.size
 block:∀ b,b<w.heap.size→¬S b→w'.heap[b]?=w.heap[b]?
theorem Ext.refl (S:Nat→Prop) (w:World):Ext S w w:=⟨FG _,fun _ _ _=>rfl⟩
theorem Ext.trans {S:Nat→Prop} {w w' w'':World} (h:Ext S w w') (h':Ext S w' w''):Ext S w w'' :=
 ⟨FM h.size h'.size,fun b hb hs=>(h'.block b (Fz hb h.size) hs).trans (h.block b hb hs)⟩
theorem Ext.mono {S':Nat→Prop} (h:Ext S w w') (hs:∀ b,b<w.heap.size→S b→S' b):Ext S' w w' :=
 ⟨h.size,fun b hb hn=>h.block b hb (fun e=>hn (hs b hb e))⟩
theorem Ext.below (h:Below w.heap.size w w'):Ext S w w':=⟨h.size,fun b hb _=>h.block b hb⟩
theorem Ext.cell {S:Nat→Prop} {w w':World} (h:Ext S w w') {b o:Nat} (hb:b<w.heap.size) (hs:¬S b):w'.cell? ⟨b,o,none⟩=w.cell? ⟨b,o,none⟩ :=
 World.cell?_of_block (a:=⟨b,o,none⟩) (h.block b hb hs)
theorem Ext.bx {g:Nat} {cs:Array Value} {t:TypeId} (h:Ext S w w') (hx:Bx w g cs t) (hs:¬S g):Bx w' g cs t:=(h.block g hx.lt hs).trans hx
theorem Ext.own {base e size:Nat} {v:Value} {xs:List Value} (h:Ext S w w') (ho:w.ownsRow base e size v n xs) (hs:∀ k,v.ownBlock=some k→¬S k):w'.ownsRow base e size v n xs:=by
 refine⟨ho.1,?_⟩;rcases ho.2 with h1|⟨g,cap,cur,hv,hb,hg,h3⟩
 ·exact .inl h1
 ·refine .inr ⟨g,cap,cur,hv,hb,?_,h3⟩
  have hlt:g<w.heap.size:=(Array.getElem?_eq_some_iff.1 hg).1;exact(h.block g hlt (hs g (by rw[hv];rfl))).trans hg
def Av (P:Nat→Prop) (a:Option Addr) (n:Nat):Prop:=0<n→∀ p,a=some p→P p.block
theorem ay.lt_ (h:ay w a n l):Av (fun b=>b<w.heap.size) a n:=fun hn p hp=>by
 obtain⟨b,off,ha,hlt,_⟩:=h.2.2 hn;rw[ha] at hp;cases hp
 exact hlt
theorem aU.ltA (h:aU w a n l):Av (fun b=>b<w.heap.size) a n:=fun hn p hp=>by
 obtain⟨b,off,ha,hlt,_⟩:=h.2.2.2 hn;rw[ha] at hp;cases hp
 exact hlt
theorem Bytes.ltA (h:Bytes w a n l):Av (fun b=>b<w.heap.size) a n:=fun hn p hp=>by
 obtain⟨b,off,ha,hc⟩:=h.2.2.2 hn;rw[ha] at hp;cases hp
 exact World.block_lt_of_cell? w _ (hc 0 hn)
theorem ay.ext (h:ay w a n l) (hx:Ext S w w') (hp:Av P a n) (hd:∀ b,b<w.heap.size→P b→¬S b):ay w' a n l:=by
 refine⟨h.1,h.2.1,fun hn=>?_⟩;obtain⟨b,off,ha,hlt,hc⟩:=h.2.2 hn;refine⟨b,off,ha,Fz hlt hx.size,fun i hi=>?_⟩;rw[hx.cell hlt (hd b hlt (hp hn _ ha))];exact hc i hi
theorem aU.ext (h:aU w a n l) (hx:Ext S w w') (hp:Av P a n) (hd:∀ b,b<w.heap.size→P b→¬S b):aU w' a n l:=by
 refine⟨h.1,h.2.1,h.2.2.1,fun hn=>?_⟩;obtain⟨b,off,ha,hlt,hc⟩:=h.2.2.2 hn;refine⟨b,off,ha,Fz hlt hx.size,fun i hi=>?_⟩;rw[hx.cell hlt (hd b hlt (hp hn _ ha))];exact hc i hi
theorem Bytes.ext (h:Bytes w a n l) (hx:Ext S w w') (hp:Av P a n) (hd:∀ b,b<w.heap.size→P b→¬S b):Bytes w' a n l:=by
 refine⟨h.1,h.2.1,h.2.2.1,fun hn=>?_⟩;obtain⟨b,off,ha,hc⟩:=h.2.2.2 hn;have hlt:b<w.heap.size:=World.block_lt_of_cell? w _ (hc 0 hn);refine⟨b,off,ha,fun i hi=>?_⟩;rw[hx.cell hlt (hd b hlt (hp hn _ ha))];exact hc i hi
def FLF (P:Nat→Prop) (w:World) (a:Option Addr) (k:Nat) (fs:List Fr):Prop :=
 fs.length=k∧k≤maxLen∧(0<k→∃ b off,a=some ⟨b,off,none⟩∧P b∧b<w.heap.size∧∀ i f,fs[i]?=some f→∃ a1 n1 c1 a2 c2,w.cell? ⟨b,off+i*3,none⟩=some (.int .i64 f.kind)∧w.cell? ⟨b,off+i*3+1,none⟩=some (.slice a1 n1 c1)∧w.cell? ⟨b,off+i*3+2,none⟩=some (.slice a2 f.nb c2)∧ay w a1 n1 f.ak∧aU w a2 f.nb f.bs∧n1≤c1∧f.nb≤c2∧Av P a1 n1∧Av P a2 f.nb)
theorem FLF.nil (P:Nat→Prop) (w:World):FLF P w none 0 []:=⟨rfl,by rw[aC];omega,fun h=>absurd h (by omega)⟩
theorem FLF.fl {fs:List Fr} (h:FLF P w a k fs):FL w a k fs:=by
 obtain⟨h1,h2,h4⟩:=h;refine⟨h1,h2,fun hp=>?_⟩;obtain⟨b,off,ha,_,hlt,hc⟩:=h4 hp;refine⟨b,off,ha,hlt,fun i f hf=>?_⟩;obtain⟨a1,n1,c1,a2,c2,e1,e2,e3,e4,e5,e6,e7,_⟩:=hc i f hf;exact⟨a1,n1,c1,a2,c2,e1,e2,e3,e4,e5,e6,e7⟩
theorem FLF.imp {P':Nat→Prop} {fs:List Fr} (h:FLF P w a k fs) (hi:∀ b,b<w.heap.size→P b→P' b):FLF P' w a k fs:=by
 obtain⟨h1,h2,h4⟩:=h;refine⟨h1,h2,fun hp=>?_⟩;obtain⟨b,off,ha,hb,hlt,hc⟩:=h4 hp;refine⟨b,off,ha,hi b hlt hb,hlt,fun i f hf=>?_⟩;obtain⟨a1,n1,c1,a2,c2,e1,e2,e3,e4,e5,e6,e7,e8,e9⟩:=hc i f hf;exact⟨a1,n1,c1,a2,c2,e1,e2,e3,e4,e5,e6,e7,fun hn p hp=>hi _ (e4.lt_ hn p hp) (e8 hn p hp),fun hn p hp=>hi _ (e5.ltA hn p hp) (e9 hn p hp)⟩
theorem FLF.yU {B:Nat} {fs:List Fr} (h:FLA B w a k fs) (hi:∀ b,b<w.heap.size→B≤b→P b):FLF P w a k fs:=by
 have h0:FLF (fun b=>B≤b) w a k fs:=h;exact h0.imp hi
theorem FLF.ext {S P:Nat→Prop} {w w':World} {a:Option Addr} {k:Nat} {fs:List Fr} (h:FLF P w a k fs) (hx:Ext S w w') (hd:∀ b,b<w.heap.size→P b→¬S b):FLF P w' a k fs:=by
 obtain⟨h1,h2,h4⟩:=h;refine⟨h1,h2,fun hp=>?_⟩;obtain⟨b,off,ha,hb,hlt,hc⟩:=h4 hp;refine⟨b,off,ha,hb,Fz hlt hx.size,fun i f hf=>?_⟩;obtain⟨a1,n1,c1,a2,c2,e1,e2,e3,e4,e5,e6,e7,e8,e9⟩:=hc i f hf;have hs:=hd b hlt hb;exact⟨a1,n1,c1,a2,c2,(hx.cell hlt hs).trans e1,(hx.cell hlt hs).trans e2,(hx.cell hlt hs).trans e3,e4.ext hx e8 hd,e5.ext hx e9 hd,e6,e7,e8,e9⟩
end
end Go.Proofs.YtbicgjafjjihdaaGreat
