/- Part. -/
import Derived.Maps.AppendAt
import Derived.Deep.RegionHeld3
import Derived.Test.YtbicgjafjjihdaaGreatDoorZ7
set_option maxHeartbeats 16000000
set_option maxRecDepth 100000
namespace Go.Proofs.YtbicgjafjjihdaaGreatDoor
open Go.RowKit
section
variable {w w':World} {a:Option Addr} {k B base:Nat} {v:Value}
theorem PL.grownBy {w w':World} {a:Option Addr} {n:Nat} {l:List Pt} {row:Option Nat} (h:PL w a n l) (hg:w.grownBy w' row) (hne:0<n→∀ p,a=some p→row≠some p.block):PL w' a n l:=by
 obtain⟨h0,h1,h2,h3⟩:=h;refine⟨h0,h1,h2,fun hp=>?_⟩;obtain⟨b,off,ha,hlt,hc⟩:=h3 hp;exact⟨b,off,ha,by have:=hg.size;omega,fun j u hj=>hg.cell (hc j u hj) (fun e=>hne hp _ ha e.symm)⟩
def EL (w:World) (a:Option Addr) (k:Nat) (es:List Ep):Prop :=
 es.length=k∧k≤maxLen∧(0<k→∃ b off,a=some ⟨b,off,none⟩∧b<w.heap.size∧∀ i e,es[i]?=some e→∃ ai ni ci,w.cell? ⟨b,off+i*2,none⟩=some (.int .i64 e.num)∧w.cell? ⟨b,off+i*2+1,none⟩=some (.slice ai ni ci)∧PL w ai ni e.aI∧ni≤ci)
theorem EL.later {w w':World} {a:Option Addr} {k:Nat} {es:List Ep} (h:EL w a k es) (hb:Gq w w'):EL w' a k es:=by
 obtain⟨h1,h2,h4⟩:=h;refine⟨h1,h2,fun hp=>?_⟩;obtain⟨b,off,ha,hlt,hc⟩:=h4 hp;refine⟨b,off,ha,by have:=hb.size;omega,fun i e he=>?_⟩;obtain⟨ai,ni,ci,c1,c2,c3,c4⟩:=hc i e he;exact⟨ai,ni,ci,(hb.cell (p:=⟨b,off+i*2,none⟩) hlt).trans c1,(hb.cell (p:=⟨b,off+i*2+1,none⟩) hlt).trans c2,c3.later hb,c4⟩
theorem EL.at_ {es:List Ep} (h:EL w a k es) (i:Nat) (hi:i<k) :
 ∃ b off e ai ni ci,a=some ⟨b,off,none⟩∧b<w.heap.size∧es[i]?=some e∧w.cell? ⟨b,off+i*2,none⟩=some (.int .i64 e.num)∧w.cell? ⟨b,off+i*2+1,none⟩=some (.slice ai ni ci)∧PL w ai ni e.aI∧ni≤ci:=by
 obtain⟨h1,h2,h4⟩:=h;obtain⟨b,off,ha,hlt,hc⟩:=h4 (by omega);have hl:es[i]?=some es[i]:=F0 (by omega);obtain⟨ai,ni,ci,c1,c2,c3⟩:=hc i _ hl;exact⟨b,off,es[i],ai,ni,ci,ha,hlt,hl,c1,c2,c3⟩
theorem EL.drop {w:World} {b off:Nat} {k:Nat} {es:List Ep} (h:EL w (some ⟨b,off,none⟩) k es) (j:Nat) (hj:j≤k):EL w (some ⟨b,off+j*2,none⟩) (k-j) (es.drop j):=by
 obtain⟨h1,h2,h4⟩:=h;refine⟨by rw[List.length_drop,h1],by omega,fun hp=>?_⟩;obtain⟨b',off',ha,hlt,hc⟩:=h4 (by omega);simp only[Option.some.injEq,Addr.mk.injEq,and_true] at ha;obtain⟨rfl,rfl⟩:=ha;refine⟨b,off+j*2,rfl,hlt,fun i e he=>?_⟩;rw[List.getElem?_drop] at he;obtain⟨ai,ni,ci,c1,c2,c3⟩:=hc (j+i) e he;rw[show off+(j+i)*2=off+j*2+i*2 by rw[Nat.add_mul];omega] at c1 c2;exact⟨ai,ni,ci,c1,c2,c3⟩
def ELA (B:Nat) (w:World) (a:Option Addr) (k:Nat) (es:List Ep):Prop :=
 es.length=k∧k≤maxLen∧(0<k→∃ b off,a=some ⟨b,off,none⟩∧B≤b∧b<w.heap.size∧∀ i e,es[i]?=some e→∃ ai ni ci,w.cell? ⟨b,off+i*2,none⟩=some (.int .i64 e.num)∧w.cell? ⟨b,off+i*2+1,none⟩=some (.slice ai ni ci)∧PL w ai ni e.aI∧ni≤ci∧(0<ni→∀ p,ai=some p→B≤p.block))
theorem ELA.grown {g:Nat} {es:List Ep} (h:ELA B w a k es) (hg:w.grownBy w' (some g)) (hB:g<B):ELA B w' a k es:=by
 obtain⟨h1,h2,h4⟩:=h;refine⟨h1,h2,fun hp=>?_⟩;obtain⟨b,off,ha,hb,hlt,hc⟩:=h4 hp;have hne:∀ o,some (⟨b,o,none⟩:Addr).block≠some g:=fun o e=>by have:b=g:=Gg e;omega
 refine⟨b,off,ha,hb,by have:=hg.size;omega,fun i e he=>?_⟩;obtain⟨ai,ni,ci,c1,c2,c3,c4,c5⟩:=hc i e he;exact⟨ai,ni,ci,hg.cell c1 (hne _),hg.cell c2 (hne _),c3.grownBy hg (fun h0 p hp e=>by have:=c5 h0 p hp;have:g=p.block:=Gg e;omega),c4,c5⟩
def Eps (B:Nat) (w:World) (vs:List Value) (es:List Ep) (row:Option Nat):Prop :=
 ∀ (i:Nat) (e:Ep),es[i]?=some e→∃ (a:Option Addr) (n c:Nat),vs[i*2]?=some (.int .i64 e.num)∧vs[i*2+1]?=some (.slice a n c)∧PL w a n e.aI∧n≤c∧(0<n→∀ p,a=some p→row≠some p.block∧B≤p.block)
def cZ (B:Nat) (w:World) (base:Nat) (v:Value) (es:List Ep):Prop:=∃ vs:List Value,w.ownsRow base 164 2 v es.length vs∧Eps B w vs es v.ownBlock
theorem Tryz.info164:(Tryz.prog.info? 164).map (fun i=>(i.zero,i.size,i.bytes))=some (some (.agg #[.int .i64 0,.slice none 0 0]),2,32):=by kernel_rfl
theorem cZ.nil (B:Nat) (w:World) (base:Nat):cZ B w base (.slice none 0 0) []:=⟨[],World.ownsRow_nil w base _ 2,fun i e he=>by simp at he⟩
theorem cZ.later {B:Nat} {w w':World} {base:Nat} {v:Value} {es:List Ep} (h:cZ B w base v es) (hb:Gq w w'):cZ B w' base v es:=by
 obtain⟨vs,h1,h2⟩:=h;refine⟨vs,bm h1 hb,fun i e he=>?_⟩;obtain⟨a,n,c,e1,e2,e3,e4⟩:=h2 i e he;exact⟨a,n,c,e1,e2,e3.later hb,e4⟩
theorem cZ.lt {B:Nat} {w:World} {base:Nat} {v:Value} {es:List Ep} (h:cZ B w base v es):∀ k,v.ownBlock=some k→base≤k∧k<w.heap.size:=by
 obtain⟨vs,h1,_⟩:=h;exact World.ownsRow.lt h1
theorem cZ.el {es:List Ep} (h:cZ B w base v es):∃ a c,v=.slice a es.length c∧es.length≤c∧EL w a es.length es:=by
 obtain⟨vs,h1,h2⟩:=h;obtain⟨a,c,hv,hle,hr,hp⟩:=aA h1;refine⟨a,c,hv,hle,rfl,hr.2.1,fun h0=>?_⟩;obtain⟨b,off,ha,hlt,hc⟩:=hr.2.2 h0;refine⟨b,off,ha,hlt,fun i e he=>?_⟩;obtain⟨ai,ni,ci,e1,e2,e3,e4,_⟩:=h2 i e he;exact⟨ai,ni,ci,hc _ _ e1,hc _ _ e2,e3,e4⟩
theorem yg {m:Nat} {v':Value} {es es2:List Ep} {vs news:List Value} (h1:w.ownsRow base 164 2 v es.length vs) (h2:Eps B w vs es v.ownBlock) (hes:Eps B w news es2 v.ownBlock) (hm:es2.length=m)
 (hown':w'.ownsRow base 164 2 v' (es.length+m) (vs++news)) (hg:w.grownBy w' v.ownBlock) (hat:v'.ownBlock=v.ownBlock∨v'.ownBlock=some w.heap.size):cZ B w' base v' (es++es2):=by
 have hvne:∀ (p:Addr),p.block<w.heap.size→v.ownBlock≠some p.block→v'.ownBlock≠some p.block:=by
  intro p hlt hne e;rcases hat with h|h
  ·exact hne (h.symm.trans e)
  ·rw[h] at e
   simp at e;omega
 have hvl:vs.length=es.length*2:=h1.1;refine⟨vs++news,by rw[Ge,hm];exact hown',fun i e he=>?_⟩;have fin:∀ {a':Option Addr} {n':Nat} {l:List Pt},PL w a' n' l→(0<n'→∀ p,a'=some p→v.ownBlock≠some p.block∧B≤p.block)→PL w' a' n' l∧(0<n'→∀ p,a'=some p→v'.ownBlock≠some p.block∧B≤p.block):=by
  intro a' n' l hp hne;refine⟨hp.grownBy hg (fun h0 p hpa=>(hne h0 p hpa).1),fun h0 p hpa=>⟨?_,(hne h0 p hpa).2⟩⟩;obtain⟨b,off,ha,hlt,_⟩:=hp.2.2.2 h0;have hpa':=hpa;rw[ha] at hpa;cases hpa
  exact hvne _ hlt (hne h0 _ hpa').1
 by_cases hi':i<es.length
 ·rw[Gm hi'] at he
  obtain⟨a',n',c',e1,e2,e3,e4,e5⟩:=h2 i e he;have hf:=fin e3 e5;exact⟨a',n',c',by rw[Gm (by omega)];exact e1,by rw[Gm (by omega)];exact e2,hf.1,e4,hf.2⟩
 ·rw[Gl (by omega)] at he
  obtain⟨a',n',c',e1,e2,e3,e4,e5⟩:=hes _ e he;have hf:=fin e3 e5;refine⟨a',n',c',?_,?_,hf.1,e4,hf.2⟩
  ·rw[Gl (by omega),hvl,show i*2-es.length*2=(i-es.length)*2 by omega]
   exact e1
  ·rw[Gl (by omega),hvl,show i*2+1-es.length*2=(i-es.length)*2+1 by omega]
   exact e2
theorem cZ.ela {es:List Ep} (h:cZ B w base v es) (hB:B≤base):∃ a c,v=.slice a es.length c∧es.length≤c∧ELA B w a es.length es:=by
 obtain⟨vs,h1,h2⟩:=h;obtain⟨a,c,hv,hle,hr,hp⟩:=aA h1;refine⟨a,c,hv,hle,rfl,hr.2.1,fun h0=>?_⟩;obtain⟨b,off,ha,hlt,hc⟩:=hr.2.2 h0;have hbb:base≤b:=hp _ ha;refine⟨b,off,ha,by omega,hlt,fun i e he=>?_⟩;obtain⟨ai,ni,ci,e1,e2,e3,e4,e5⟩:=h2 i e he;exact⟨ai,ni,ci,hc _ _ e1,hc _ _ e2,e3,e4,fun h0 p hp=>(e5 h0 p hp).2⟩
theorem j9 {ops:Array Oper} {o:Oper} {a:Act} {K:Act→World→Prop} {Q:Exit→Act→World→Prop} {E:Prop} (hgd:o.guard=none) (s x:Operand)
 (ho:o.op=Op.call {callee:=Callee.builtin Builtin.append,args:=#[s,x],argTypes:=#[99,99]}) (B base:Nat) (es:List Ep) (hown:cZ B w base (a.eval s) es)
 (z:Int) (ad:Option Addr) (n c:Nat) (ps:List Pt) (hl:PL w ad n ps) (hc:n≤c) (hp:0<n→∀ p,ad=some p→(a.eval s).ownBlock≠some p.block∧B≤p.block)
 (hx:a.eval x=.slice (some ⟨w.heap.size,0,none⟩) 1 1) (h63:es.length≤100000) (hbase:base≤w.heap.size)
 (hK:∀ v' w',cZ B w' base v' (es++[⟨z,ps⟩])→w.grownBy w' (a.eval s).ownBlock→K (a.put o.dst v') w') :
 if Region.wanted o (yielded ops a.tmps)=true then Oper.wp Tryz.prog o a (w.alloc (.cells #[.int .i64 z,.slice ad n c] 164)) K Q else E:=by
 have hw:Region.wanted o (yielded ops a.tmps)=true:=by simp[Region.wanted,hgd]
 rw[if_pos hw];obtain⟨vs,h1,h2⟩:=hown.later (af w (.cells #[.int .i64 z,.slice ad n c] 164));obtain⟨i0,hi0,hz0,hz1,hz2⟩:=info_parts Tryz.info164;obtain⟨v',w',hr,hown',hg,_,hat⟩:=run_append_own_at (P:=Tryz.prog) (w.alloc (.cells #[.int .i64 z,.slice ad n c] 164)) base 99 o.type 164 i0 _ 2 32 Tryz.underlying99 hi0 hz0 hz1 hz2 rfl (by decide) (a.eval s) es.length vs h1 ⟨w.heap.size,0,none⟩ 1 1 [.int .i64 z,.slice ad n c] rfl (fun j u hj=>by
  rw[Addr.add_lit,World.cell?_alloc_new];simpa using hj) (by simp[Value.oneCell']) (by unfold maxLen;omega) (by omega) (by simp;omega)
 have hes:Eps B (w.alloc (.cells #[.int .i64 z,.slice ad n c] 164)) [.int .i64 z,.slice ad n c] [⟨z,ps⟩] (a.eval s).ownBlock:=by
  intro i e he
  match i,he with
  | 0, he =>
   simp at he;subst he;exact⟨ad,n,c,rfl,rfl,hl.later (af _ _),hc,hp⟩
  | i + 1, he => simp at he
 unfold Oper.wp execOp;simp only[ho,resolve,invoke,builtin,Sem.run_bind,Sem.run_pure,Result.andThen_ok,List.map_toArray,List.map_cons,List.map_nil,hx,hr];exact hK _ _ (yg h1 h2 hes rfl hown' hg hat) ⟨hg.os,hg.tape,hg.output,by have:=hg.size;simp at this;omega,fun k hk hne=>(hg.block k (by simp;omega) hne).trans (Below.heap_alloc w _ k hk)⟩
end
theorem ak {w w' : World} {g : Nat} (h : w.grownBy w' (some g)) (o : Nat) (v : Value) : w.grownBy (w'.setCell ⟨g, o, none⟩ v) (some g) :=
  ⟨h.os, h.tape, h.output, by have := h.size; simpa [World.setCell] using this, fun k hk hne => (Below.heap_setCell w' ⟨g, o, none⟩ v k (fun e => hne (by rw [e]))).trans (h.block k hk hne)⟩
theorem cy {w w' : World} {row : Option Nat} (h : w.grownBy w' row) : w.grownBy w'.drew row := ⟨h.os, h.tape, h.output, h.size, h.block⟩
theorem nH {w w' : World} {row : Option Nat} (h : w.grownBy w' row) (o : Obj) : w.grownBy (w'.alloc o) row := h.trans (World.grownBy_alloc w' o row)
theorem aq (w : World) (row : Option Nat) : w.grownBy w row := ⟨rfl, rfl, rfl, Gi _, fun _ _ _ => rfl⟩
theorem lA {w w' : World} {g : Nat} (h : w.grownBy w' (some g)) (o : Nat) (x : B8) : w.grownBy (aR w' g o x) (some g) :=
  ak (ak (ak (ak (ak (ak (ak (ak h _ _) _ _) _ _) _ _) _ _) _ _) _ _) _ _

theorem aw {w : World} {g o q i : Nat} (h : ¬ g = q) (v : Value) : (w.setCell ⟨g, o, none⟩ v).cell? ⟨q, i, none⟩ = w.cell? ⟨q, i, none⟩ := World.cell?_setCell_far w ⟨g, o, none⟩ ⟨q, i, none⟩ v h

theorem ao {w : World} {g i : Nat} (h : g < w.heap.size) (o : Obj) : (w.alloc o).cell? ⟨g, i, none⟩ = w.cell? ⟨g, i, none⟩ := (af w o).cell (p := ⟨g, i, none⟩) h
theorem an (w : World) (a : Addr) : w.drew.cell? a = w.cell? a := rfl

def Oc (o : Option B8) : List Value := [.int .u8 (o.getD zB).z0, .int .u8 (o.getD zB).z1, .int .u8 (o.getD zB).z2, .int .u8 (o.getD zB).z3, .int .u8 (o.getD zB).z4, .int .u8 (o.getD zB).z5, .int .u8 (o.getD zB).z6, .int .u8 (o.getD zB).z7, .bool o.isSome]
def iC (fs : List (Option B8)) : List Value := fs.flatMap Oc
theorem yi (fs : List (Option B8)) : (iC fs).length = fs.length * 9 := eo _ 9 (fun _ => rfl) fs
/-- the array, whole -/
def LB (w : World) (g : Nat) (fs : List (Option B8)) : Prop := fs.length = 32 ∧ Bx w g (iC fs).toArray 157
theorem LB.at_ {w : World} {g : Nat} {fs : List (Option B8)} (h : LB w g fs) (j : Nat) (hj : j < 32) :
    ∃ o : Option B8, fs[j]? = some o ∧ w.cell? ⟨g, j * 9, none⟩ = some (.int .u8 (o.getD zB).z0) ∧ w.cell? ⟨g, j * 9 + 1, none⟩ = some (.int .u8 (o.getD zB).z1) ∧ w.cell? ⟨g, j * 9 + 2, none⟩ = some (.int .u8 (o.getD zB).z2) ∧
      w.cell? ⟨g, j * 9 + 3, none⟩ = some (.int .u8 (o.getD zB).z3) ∧ w.cell? ⟨g, j * 9 + 4, none⟩ = some (.int .u8 (o.getD zB).z4) ∧ w.cell? ⟨g, j * 9 + 5, none⟩ = some (.int .u8 (o.getD zB).z5) ∧
      w.cell? ⟨g, j * 9 + 6, none⟩ = some (.int .u8 (o.getD zB).z6) ∧ w.cell? ⟨g, j * 9 + 7, none⟩ = some (.int .u8 (o.getD zB).z7) ∧ w.cell? ⟨g, j * 9 + 8, none⟩ = some (.bool o.isSome) := by
  have hjl : j < fs.length := by have := h.1; omega
  have hx : fs[j]? = some fs[j] := F0 hjl
  have e := fun i (hi : i < 9) => cQ Oc 9 (fun _ => rfl) fs j i _ hx hi
  have c := fun i (hi : i < 9) => (h.2.cell (j * 9 + i)).trans ((Gd ..).trans (e i hi))
  exact ⟨fs[j], hx, c 0 (by omega), c 1 (by omega), c 2 (by omega), c 3 (by omega), c 4 (by omega), c 5 (by omega), c 6 (by omega), c 7 (by omega), c 8 (by omega)⟩
theorem z8 {α : Type} (L : List α) (o : Nat) (a0 a1 a2 a3 a4 a5 a6 a7 a8 : α) (h : o + 9 ≤ L.length) :
    ((((((((L.set o a0).set (o + 1) a1).set (o + 2) a2).set (o + 3) a3).set (o + 4) a4).set (o + 5) a5).set (o + 6) a6).set (o + 7) a7).set (o + 8) a8 = L.take o ++ [a0, a1, a2, a3, a4, a5, a6, a7, a8] ++ L.drop (o + 9) := by
  have hL : L = L.take o ++ ((L.drop o).take 9 ++ L.drop (o + 9)) := by
    rw [show L.drop (o + 9) = (L.drop o).drop 9 by rw [List.drop_drop], List.take_append_drop, List.take_append_drop]
  have hl : (L.take o).length = o := by rw [Gk]; omega
  have h9 : ((L.drop o).take 9).length = 9 := by rw [Gk, List.length_drop]; omega
  generalize L.take o = A at *
  generalize (L.drop o).take 9 = B at *
  generalize L.drop (o + 9) = C at *
  match B, h9 with
  | [b0, b1, b2, b3, b4, b5, b6, b7, b8], _ =>
    subst hL
    subst hl
    have e := fun (X : List α) (i : Nat) (v : α) => List.set_append_right (s := A) (t := X) (A.length + i) v (by omega)
    have e0 := fun (X : List α) (v : α) => List.set_append_right (s := A) (t := X) A.length v (Gi _)
    simp only [Nat.add_sub_cancel_left, Nat.sub_self] at e e0
    simp only [e, e0, List.cons_append, List.nil_append, List.set_cons_zero, List.set_cons_succ, List.append_assoc]
/-- a put stored into the array -/
def xr (w : World) (g o : Nat) (x : B8) : World := (aR w g o x).setCell ⟨g, o + 8, none⟩ (.bool true)
theorem LB.put {w : World} {g : Nat} {fs : List (Option B8)} (h : LB w g fs) (j : Nat) (hj : j < 32) (x : B8) : LB (xr w g (j * 9) x) g (fs.set j (some x)) := by
  have hl := h.1
  refine ⟨by rw [List.length_set]; exact hl, ?_⟩
  have h8 := ((((((((h.2.set (j * 9) (.int .u8 x.z0)).set (j * 9 + 1) (.int .u8 x.z1)).set (j * 9 + 2) (.int .u8 x.z2)).set (j * 9 + 3) (.int .u8 x.z3)).set (j * 9 + 4) (.int .u8 x.z4)).set (j * 9 + 5) (.int .u8 x.z5)).set (j * 9 + 6) (.int .u8 x.z6)).set (j * 9 + 7) (.int .u8 x.z7)).set (j * 9 + 8) (.bool true)
  have hf : iC (fs.set j (some x)) = (iC fs).take (j * 9) ++ Oc (some x) ++ (iC fs).drop (j * 9 + 9) := me Oc 9 (fun _ => rfl) fs j (some x) (by omega)
  have ha : ((((((((((iC fs).toArray.setIfInBounds (j * 9) (.int .u8 x.z0)).setIfInBounds (j * 9 + 1) (.int .u8 x.z1)).setIfInBounds (j * 9 + 2) (.int .u8 x.z2)).setIfInBounds (j * 9 + 3) (.int .u8 x.z3)).setIfInBounds (j * 9 + 4) (.int .u8 x.z4)).setIfInBounds (j * 9 + 5) (.int .u8 x.z5)).setIfInBounds (j * 9 + 6) (.int .u8 x.z6)).setIfInBounds (j * 9 + 7) (.int .u8 x.z7)).setIfInBounds (j * 9 + 8) (.bool true)) = (iC (fs.set j (some x))).toArray := by
    apply Array.ext'
    simp only [Array.toList_setIfInBounds]
    rw [z8 (iC fs) (j * 9) _ _ _ _ _ _ _ _ _ (by rw [yi]; omega), hf]
    rfl
  rw [ha] at h8
  exact h8
theorem LB.later {w w' : World} {g B : Nat} {fs : List (Option B8)} (h : LB w g fs) (hb : Below B w w') (hg : g < B) : LB w' g fs := ⟨h.1, h.2.later hb hg⟩
theorem LB.drew {w : World} {g : Nat} {fs : List (Option B8)} (h : LB w g fs) : LB w.drew g fs := h
theorem yq {w w' : World} {g : Nat} (h : w.grownBy w' (some g)) (o : Nat) (x : B8) : w.grownBy (xr w' g o x) (some g) := ak (lA h o x) _ _

theorem Mx.xy {fs : List (Option B8)} {ps : List Pt} {k : Nat} {p : Pt} (h : ps[k]? = some p) : Mx.dD fs (ps.take (k + 1)) = (Mx.dD fs (ps.take k)).set p.at_.toNat (some p.d) := by
  unfold Mx.dD
  rw [aN _ _ _ h, List.foldl_append]
  rfl

set_option maxHeartbeats 4000000 in
set_option maxRecDepth 100000 in
theorem mY (g : Nat) (a : Option Addr) (m c : Nat) (ps : List Pt) (fs : List (Option B8)) (w : World) (hl : LB w g fs) (hp : PL w a m ps) (hne : 0 < m → ∀ p, a = some p → p.block ≠ g) (hin : ∀ q ∈ ps, 0 ≤ q.at_ ∧ q.at_ < 32) :
    Calls Tryz.prog 67 #[.pointer (some ⟨g, 0, none⟩), .slice a m c] w fun e w' => e = .returned (.tuple #[]) ∧ Hid (LB w' g (Mx.dD fs ps)) ∧ Hid (w.grownBy w' (some g)) := by
  have hlen : m ≤ maxLen := hp.2.2.1
  unfold maxLen at hlen
  have HP := aa hp
  have HN := aa hp.1
  have HI := aa hin
  have HNE := aa hne
  have HL := aa hl
  have hgw := hl.2.lt
  clear hp hin hne hl
  go_enter Tryz.func67, Tryz.ntmps67
  go_wp2_with fail
  go_loopw [8] (fun t wr => ∃ k : Nat, k ≤ m ∧ t = .int .i64 (k : Int) ∧ Hid (LB wr g (Mx.dD fs (ps.take k))) ∧ Hid (w.grownBy wr (some g))) (fun t _ => m - (intOf t).toNat)
  case atStart => exact ⟨0, by omega, rfl, HL, aq _ _⟩
  case round =>
    obtain ⟨k, hk, rfl, hLx, hGx⟩ := hrel
    by_cases hlt : k < m
    · obtain ⟨b, off, p, hab, hbw, hpk, e0, e1, e2, e3, e4, e5, e6, e7, e8⟩ := (HP.o.grownBy hGx.o (fun h0 p hp e => HNE.o h0 p hp (Gg e).symm)).at_ k hlt
      subst hab
      have hpi := HI.o p (Gp hpk)
      obtain ⟨j, hj⟩ := Int.eq_ofNat_of_zero_le hpi.1
      have HK := aa hpk
      have HJ := aa hj
      rw [hj] at e0 hpi
      have hj32 : (j : Int) < 32 := hpi.2
      have hj32n : j < 32 := by omega
      have hj0 : (0 : Int) ≤ (j : Int) := hpi.1
      clear hpk hj hpi
      obtain ⟨W1, hW1⟩ : ∃ W1 : World, Hid (W1 = wr.alloc (.cells #[.int .i64 (j : Int), .int .u8 p.d.z0, .int .u8 p.d.z1, .int .u8 p.d.z2, .int .u8 p.d.z3, .int .u8 p.d.z4, .int .u8 p.d.z5, .int .u8 p.d.z6, .int .u8 p.d.z7] 114)) := ⟨_, rfl⟩
      have XP := aa (show Bx W1 wr.heap.size #[.int .i64 (j : Int), .int .u8 p.d.z0, .int .u8 p.d.z1, .int .u8 p.d.z2, .int .u8 p.d.z3, .int .u8 p.d.z4, .int .u8 p.d.z5, .int .u8 p.d.z6, .int .u8 p.d.z7] 114 by rw [hW1.o]; exact Bx.new wr _ _)
      have L1 := aa (show LB W1 g _ by rw [hW1.o]; exact hLx.o.later (af _ _) hLx.o.2.lt)
      have G1 := aa (show w.grownBy W1 (some g) by rw [hW1.o]; exact nH hGx.o _)
      have hgq : ¬ g = wr.heap.size := by have := hLx.o.2.lt; omega
      go_wp2_with fail
      rw [← hW1.o]
      clear e0 e1 e2 e3 e4 e5 e6 e7 e8
      have p0 := XP.o.cell 0
      have p1 := XP.o.cell 1
      have p2 := XP.o.cell 2
      have p3 := XP.o.cell 3
      have p4 := XP.o.cell 4
      have p5 := XP.o.cell 5
      have p6 := XP.o.cell 6
      have p7 := XP.o.cell 7
      have p8 := XP.o.cell 8
      simp only [Gd, Gb, Gc] at p0 p1 p2 p3 p4 p5 p6 p7 p8
      obtain ⟨o, _, y0, y1, y2, y3, y4, y5, y6, y7, y8⟩ := L1.o.at_ j hj32n
      have yz := L1.o.2.frozen
      have HN2 := aa (show LB (xr W1 g (j * 9) p.d).drew g (Mx.dD fs (ps.take (k + 1))) ∧ w.grownBy (xr W1 g (j * 9) p.d).drew (some g) from by
        rw [Mx.xy HK.o, HJ.o, Int.toNat_natCast]
        exact ⟨(L1.o.put j hj32n p.d).drew, cy (yq G1.o _ _)⟩)
      go_region_held (fun w' => w'.cell? ⟨wr.heap.size, 0, none⟩ = some (.int .i64 (j : Int)) ∧ w'.cell? ⟨wr.heap.size, 1, none⟩ = some (.int .u8 p.d.z0) ∧ w'.cell? ⟨wr.heap.size, 2, none⟩ = some (.int .u8 p.d.z1) ∧ w'.cell? ⟨wr.heap.size, 3, none⟩ = some (.int .u8 p.d.z2) ∧ w'.cell? ⟨wr.heap.size, 4, none⟩ = some (.int .u8 p.d.z3) ∧ w'.cell? ⟨wr.heap.size, 5, none⟩ = some (.int .u8 p.d.z4) ∧ w'.cell? ⟨wr.heap.size, 6, none⟩ = some (.int .u8 p.d.z5) ∧ w'.cell? ⟨wr.heap.size, 7, none⟩ = some (.int .u8 p.d.z6) ∧ w'.cell? ⟨wr.heap.size, 8, none⟩ = some (.int .u8 p.d.z7))
        ((simp only [an, aw hgq]; with_reducible exact ⟨p0, p1, p2, p3, p4, p5, p6, p7, p8⟩)) (fail)
      go_wp2_with fail
      go_roundw
      case rel => exact ⟨k + 1, by omega, by go_num, HN2.o.1, HN2.o.2⟩
      case measure => simp [intOf]; omega
    · have HF := aa (show LB wr g (Mx.dD fs ps) by
        have h := hLx.o
        rw [Gj (by rw [HN.o]; omega)] at h
        exact h)
      go_wp2_with fail
      exact bodyPost_end (v := .tuple #[]) (by simp [results, Tryz.results67, go_sem]) rfl ⟨rfl, HF, hGx⟩

def Mx.Br (k : Nat) : Option B8 → List Pt
  | none => []
  | some d => [⟨(k : Int), d⟩]
theorem Mx.qP {fs : List (Option B8)} {k : Nat} {o : Option B8} (h : fs[k]? = some o) : Mx.aQ 0 (fs.take (k + 1)) = Mx.aQ 0 (fs.take k) ++ Mx.Br k o := by
  have hk : k < fs.length := (Gh.1 h).1
  rw [aN _ _ _ h, Mx.ob, Gk, Nat.min_eq_left (by omega), Nat.zero_add]
  cases o <;> rfl
theorem Mx.sK (k : Nat) (fs : List (Option B8)) : (Mx.aQ k fs).length ≤ fs.length := by
  induction fs generalizing k with
  | nil => exact Gi _
  | cons o fs ih =>
    cases o with
    | none => have := ih (k + 1); simp only [Mx.aQ, List.length_cons]; omega
    | some d => have := ih (k + 1); simp only [Mx.aQ, List.length_cons]; omega

set_option maxHeartbeats 4000000 in
set_option maxRecDepth 100000 in
theorem sM (g : Nat) (fs : List (Option B8)) (w : World) (hl : LB w g fs) :
    Calls Tryz.prog 68 #[.pointer (some ⟨g, 0, none⟩)] w fun e w' => ∃ a' c', e = .returned (.slice a' (Mx.aQ 0 fs).length c') ∧ Hid (bg w' w.heap.size (.slice a' (Mx.aQ 0 fs).length c') (Mx.aQ 0 fs)) ∧ Hid (Below w.heap.size w w') := by
  have HL := aa hl
  have hgw := hl.2.lt
  clear hl
  go_enter Tryz.func68, Tryz.ntmps68
  go_wp2_with fail
  go_loopw [3, 8] (fun s t wr => ∃ (k : Nat) (a' : Option Addr) (c' : Nat), k ≤ 32 ∧ t = .int .i64 (k : Int) ∧ s = .slice a' (Mx.aQ 0 (fs.take k)).length c' ∧ Hid (bg wr w.heap.size (.slice a' (Mx.aQ 0 (fs.take k)).length c') (Mx.aQ 0 (fs.take k))) ∧ Hid (Below w.heap.size w wr)) (fun _ t _ => 32 - (intOf t).toNat)
  case atStart => exact ⟨0, none, 0, by omega, rfl, rfl, World.ownsRow_nil _ _ _ _, Below.refl _ _⟩
  case round =>
    obtain ⟨k, a', c', hk, rfl, rfl, hO, hB⟩ := hrel
    have HLEN := aa (show (Mx.aQ 0 (fs.take k)).length ≤ 32 by have := Mx.sK 0 (fs.take k); rw [Gk] at this; omega)
    by_cases hlt : k < 32
    · obtain ⟨o, ho, y0, y1, y2, y3, y4, y5, y6, y7, y8⟩ := (HL.o.later hB.o hgw).at_ k hlt
      have HS := aa (Mx.qP ho)
      obtain ⟨L, hL⟩ : ∃ L, Hid (L = Mx.aQ 0 (fs.take k)) := ⟨_, rfl⟩
      rw [← hL.o] at hO HLEN HS ⊢
      have hki : (k : Int) < 32 := by omega
      have hgr : g < wr.heap.size := Gf hgw hB.o.size
      have hgn : ¬ wr.heap.size = g := by omega
      clear ho
      cases o with
      | none =>
        dsimp only [Option.getD, Option.isSome] at y0 y1 y2 y3 y4 y5 y6 y7 y8
        go_wp2_with fail
        go_region_held (fun w' => w'.cell? ⟨g, k * 9, none⟩ = some (.int .u8 zB.z0) ∧ w'.cell? ⟨g, k * 9 + 1, none⟩ = some (.int .u8 zB.z1) ∧ w'.cell? ⟨g, k * 9 + 2, none⟩ = some (.int .u8 zB.z2) ∧ w'.cell? ⟨g, k * 9 + 3, none⟩ = some (.int .u8 zB.z3) ∧ w'.cell? ⟨g, k * 9 + 4, none⟩ = some (.int .u8 zB.z4) ∧ w'.cell? ⟨g, k * 9 + 5, none⟩ = some (.int .u8 zB.z5) ∧ w'.cell? ⟨g, k * 9 + 6, none⟩ = some (.int .u8 zB.z6) ∧ w'.cell? ⟨g, k * 9 + 7, none⟩ = some (.int .u8 zB.z7) ∧ w'.cell? ⟨g, k * 9 + 8, none⟩ = some (.bool false))
          ((simp only [an, ao hgr]; with_reducible exact ⟨y0, y1, y2, y3, y4, y5, y6, y7, y8⟩)) (fail)
        obtain ⟨W2, hW2⟩ : ∃ W2 : World, Hid (W2 = (wr.alloc (.cells #[.int .u8 zB.z0, .int .u8 zB.z1, .int .u8 zB.z2, .int .u8 zB.z3, .int .u8 zB.z4, .int .u8 zB.z5, .int .u8 zB.z6, .int .u8 zB.z7, .bool false] 155)).drew) := ⟨_, rfl⟩
        rw [← hW2.o]
        have X2 := aa (show Bx W2 wr.heap.size #[.int .u8 zB.z0, .int .u8 zB.z1, .int .u8 zB.z2, .int .u8 zB.z3, .int .u8 zB.z4, .int .u8 zB.z5, .int .u8 zB.z6, .int .u8 zB.z7, .bool false] 155 by rw [hW2.o]; exact Bx.dj wr _ _)
        have BW := aa (show Below wr.heap.size wr W2 by rw [hW2.o]; exact (af _ _).drew)
        have B2 := aa (hB.o.trans (BW.o.mono hB.o.size))
        have O2 := aa (show bg W2 w.heap.size _ _ from bm hO.o BW.o)
        clear y0 y1 y2 y3 y4 y5 y6 y7 y8
        have q0 := X2.o.cell 0
        have q1 := X2.o.cell 1
        have q2 := X2.o.cell 2
        have q3 := X2.o.cell 3
        have q4 := X2.o.cell 4
        have q5 := X2.o.cell 5
        have q6 := X2.o.cell 6
        have q7 := X2.o.cell 7
        have q8 := X2.o.cell 8
        simp only [Gd, Gb, Gc] at q0 q1 q2 q3 q4 q5 q6 q7 q8
        have HE := aa (show Mx.aQ 0 (fs.take (k + 1)) = L by rw [HS.o, Mx.Br, List.append_nil])
        go_wp2_with fail
        go_roundw
        case rel =>
          refine ⟨k + 1, a', c', by omega, by go_num, by rw [HE.o], ?_, B2⟩
          rw [HE.o]
          exact O2
        case measure => simp [intOf]; omega
      | some d =>
        dsimp only [Option.getD, Option.isSome] at y0 y1 y2 y3 y4 y5 y6 y7 y8
        go_wp2_with fail
        go_region_held (fun w' => w'.cell? ⟨g, k * 9, none⟩ = some (.int .u8 d.z0) ∧ w'.cell? ⟨g, k * 9 + 1, none⟩ = some (.int .u8 d.z1) ∧ w'.cell? ⟨g, k * 9 + 2, none⟩ = some (.int .u8 d.z2) ∧ w'.cell? ⟨g, k * 9 + 3, none⟩ = some (.int .u8 d.z3) ∧ w'.cell? ⟨g, k * 9 + 4, none⟩ = some (.int .u8 d.z4) ∧ w'.cell? ⟨g, k * 9 + 5, none⟩ = some (.int .u8 d.z5) ∧ w'.cell? ⟨g, k * 9 + 6, none⟩ = some (.int .u8 d.z6) ∧ w'.cell? ⟨g, k * 9 + 7, none⟩ = some (.int .u8 d.z7) ∧ w'.cell? ⟨g, k * 9 + 8, none⟩ = some (.bool true))
          ((simp only [an, ao hgr]; with_reducible exact ⟨y0, y1, y2, y3, y4, y5, y6, y7, y8⟩)) (fail)
        obtain ⟨W2, hW2⟩ : ∃ W2 : World, Hid (W2 = (wr.alloc (.cells #[.int .u8 d.z0, .int .u8 d.z1, .int .u8 d.z2, .int .u8 d.z3, .int .u8 d.z4, .int .u8 d.z5, .int .u8 d.z6, .int .u8 d.z7, .bool true] 155)).drew) := ⟨_, rfl⟩
        rw [← hW2.o]
        have X2 := aa (show Bx W2 wr.heap.size #[.int .u8 d.z0, .int .u8 d.z1, .int .u8 d.z2, .int .u8 d.z3, .int .u8 d.z4, .int .u8 d.z5, .int .u8 d.z6, .int .u8 d.z7, .bool true] 155 by rw [hW2.o]; exact Bx.dj wr _ _)
        have BW := aa (show Below wr.heap.size wr W2 by rw [hW2.o]; exact (af _ _).drew)
        have B2 := aa (hB.o.trans (BW.o.mono hB.o.size))
        have O2 := aa (show bg W2 w.heap.size _ _ from bm hO.o BW.o)
        clear y0 y1 y2 y3 y4 y5 y6 y7 y8
        have q0 := X2.o.cell 0
        have q1 := X2.o.cell 1
        have q2 := X2.o.cell 2
        have q3 := X2.o.cell 3
        have q4 := X2.o.cell 4
        have q5 := X2.o.cell 5
        have q6 := X2.o.cell 6
        have q7 := X2.o.cell 7
        have q8 := X2.o.cell 8
        simp only [Gd, Gb, Gc] at q0 q1 q2 q3 q4 q5 q6 q7 q8
        have HE := aa (show Mx.aQ 0 (fs.take (k + 1)) = L ++ [⟨(k : Int), d⟩] by rw [HS.o, Mx.Br])
        go_wp2_with (at_builtin; refine eA (w := W2) rfl _ _ rfl w.heap.size L ?c0 ⟨(k : Int), d⟩ ?c1 ?c2 ?c3 ?_)
        case c0 => exact O2.o
        case c1 => rfl
        case c2 => have := HLEN.o; omega
        case c3 => exact B2.o.size
        intro ad3 cc3 w3 hown3 hg3
        have O3 := aa hown3
        have B3 := aa (B2.o.grown hg3 B2.o.size (fun i hi => (World.ownsRow.lt O2.o i hi).1))
        clear hown3 hg3
        go_wp2_with fail
        go_roundw
        case rel =>
          refine ⟨k + 1, some ad3, cc3, by omega, by go_num, by rw [HE.o, Ge] <;> rfl, ?_, B3⟩
          rw [HE.o, Ge]
          exact O3
        case measure => simp [intOf]; omega
    · have HE := aa (show fs.take k = fs by rw [Gj (by rw [HL.o.1]; omega)])
      rw [HE.o] at hO ⊢
      go_wp2_with fail
      go_ret
      exact ⟨a', c', rfl, hO, hB⟩
section
variable {k:Nat} {l:List Int}
structure Fr where
 kind:Int
 al:List Int
 nb:Nat
 bs:List Int
structure Sd where
 ses:Int
 base:Int
 q:List Fr
namespace Mx
def bZ (f:Fr):Int:=if may f.kind f.al f.nb=0 then (if 9<f.al.length then 2 else 0) else may f.kind f.al f.nb
theorem uP {f:Fr} (h:may f.kind f.al f.nb≠0):bZ f=may f.kind f.al f.nb:=by unfold bZ;rw[if_neg h]
theorem EY {f:Fr} (h:may f.kind f.al f.nb=0) (h2:9<f.al.length):bZ f=2:=by unfold bZ;rw[if_pos h,if_pos h2]
theorem su {f:Fr} (h:may f.kind f.al f.nb=0) (h2:¬9<f.al.length):bZ f=0:=by unfold bZ;rw[if_pos h,if_neg h2]
theorem uQ {f:Fr} (h:bZ f=0):may f.kind f.al f.nb=0∧f.al.length≤9:=by
 unfold bZ at h;split at h
 ·next h1 =>
  split at h
  ·omega
  ·exact⟨h1,by omega⟩
 ·next h1=>exact absurd h h1
def jR:List Fr→Int
 | [] => 0
 | f :: l => if bZ f = 0 then jR l else bZ f
theorem mT {l:List Fr} (h:∀ f∈l,bZ f=0):jR l=0:=by
 induction l with
 | nil => rfl
 | cons f l ih => rw [jR, if_pos (h f (List.mem_cons_self ..))]; exact ih (fun g hg => h g (List.mem_cons_of_mem _ hg))
theorem DH {l:List Fr} {j:Nat} {f:Fr} (h:∀ g∈l.take j,bZ g=0) (hf:l[j]?=some f) (hm:bZ f≠0):jR l=bZ f:=by
 induction l generalizing j with
 | nil => simp at hf
 | cons g l ih =>
  cases j with
  | zero =>
   simp at hf;subst hf;rw[jR,if_neg hm]
  | succ j =>
   rw[jR,if_pos (h g (by simp))];exact ih (fun x hx=>h x (List.mem_cons_of_mem _ hx)) (by simpa using hf)
theorem DI {l:List Fr} (h:jR l=0):∀ f∈l,bZ f=0:=by
 induction l with
 | nil => intro f hf; cases hf
 | cons g l ih =>
  rw[jR] at h;split at h
  ·next h1 =>
   intro f hf;rcases List.mem_cons.1 hf with rfl|hf
   ·exact h1
   ·exact ih h f hf
  ·next h1=>exact absurd h h1
def de (x:Int):Prop:=x<0∨2147483647<x
instance (x:Int):Decidable (de x):=by unfold de;infer_instance
def bD (s:Sd):Int:=if de s.ses∨de s.base then 1 else if 64<s.q.length then 2 else jR s.q
theorem DT {s:Sd} (h:de s.ses∨de s.base):bD s=1:=by unfold bD;rw[if_pos h]
theorem DU {s:Sd} (h:¬(de s.ses∨de s.base)) (h2:64<s.q.length):bD s=2:=by unfold bD;rw[if_neg h,if_pos h2]
theorem oX {s:Sd} (h:¬(de s.ses∨de s.base)) (h2:¬64<s.q.length):bD s=jR s.q:=by unfold bD;rw[if_neg h,if_neg h2]
theorem mU {s:Sd} (h:bD s=0):(0≤s.ses∧s.ses≤2147483647∧0≤s.base∧s.base≤2147483647)∧s.q.length≤64∧∀ f∈s.q,bZ f=0:=by
 unfold bD at h;split at h
 ·omega
 ·next h1 =>
  split at h
  ·omega
  ·next h2 =>
   unfold de at h1;exact⟨by omega,by omega,DI h⟩
end Mx
def FL (w:World) (a:Option Addr) (k:Nat) (fs:List Fr):Prop :=
 fs.length=k∧k≤maxLen∧(0<k→∃ b off,a=some ⟨b,off,none⟩∧b<w.heap.size∧∀ i f,fs[i]?=some f→∃ a1 n1 c1 a2 c2,w.cell? ⟨b,off+i*3,none⟩=some (.int .i64 f.kind)∧w.cell? ⟨b,off+i*3+1,none⟩=some (.slice a1 n1 c1)∧w.cell? ⟨b,off+i*3+2,none⟩=some (.slice a2 f.nb c2)∧ay w a1 n1 f.al∧aS w a2 f.nb f.bs∧n1≤c1∧f.nb≤c2)
theorem FL.later {w w':World} {a:Option Addr} {k:Nat} {fs:List Fr} (h:FL w a k fs) (hb:Gq w w'):FL w' a k fs:=by
 obtain⟨h1,h2,h4⟩:=h;refine⟨h1,h2,fun hp=>?_⟩;obtain⟨b,off,ha,hlt,hc⟩:=h4 hp;refine⟨b,off,ha,by have:=hb.size;omega,fun i f hf=>?_⟩;obtain⟨a1,n1,c1,a2,c2,e1,e2,e3,e4,e5,e6⟩:=hc i f hf;exact⟨a1,n1,c1,a2,c2,(hb.cell (p:=⟨b,off+i*3,none⟩) hlt).trans e1,(hb.cell (p:=⟨b,off+i*3+1,none⟩) hlt).trans e2,(hb.cell (p:=⟨b,off+i*3+2,none⟩) hlt).trans e3,e4.later hb,e5.later hb,e6⟩
theorem FL.at_ {w:World} {a:Option Addr} {fs:List Fr} (h:FL w a k fs) (i:Nat) (hi:i<k) :
 ∃ b off f a1 n1 c1 a2 c2,a=some ⟨b,off,none⟩∧b<w.heap.size∧fs[i]?=some f∧w.cell? ⟨b,off+i*3,none⟩=some (.int .i64 f.kind)∧w.cell? ⟨b,off+i*3+1,none⟩=some (.slice a1 n1 c1)∧w.cell? ⟨b,off+i*3+2,none⟩=some (.slice a2 f.nb c2)∧ay w a1 n1 f.al∧aS w a2 f.nb f.bs∧n1≤c1∧f.nb≤c2:=by
 obtain⟨h1,h2,h4⟩:=h;obtain⟨b,off,ha,hlt,hc⟩:=h4 (by omega);have hl:fs[i]?=some fs[i]:=F0 (by omega);obtain⟨a1,n1,c1,a2,c2,e⟩:=hc i _ hl;exact⟨b,off,fs[i],a1,n1,c1,a2,c2,ha,hlt,hl,e⟩
theorem dh (kind:Int) (a1 a2:Option Addr) (n1 c1 n2 c2:Nat) (l bs:List Int) (w:World) (hl:ay w a1 n1 l) (h2:n2≤maxLen) :
 Calls Tryz.prog 140 #[.agg #[.int .i64 kind,.slice a1 n1 c1,.slice a2 n2 c2]] w fun e w'=>e=.returned (bt (Mx.bZ ⟨kind,l,n2,bs⟩))∧Gq w w':=by
 have HL:=aa hl;have HN:=aa hl.1;have hlm:n1≤maxLen:=hl.2.1;have HM:=aa h2;clear hl h2;unfold maxLen at hlm;have X0:=aa (Bx.new w #[.int .i64 kind,.slice a1 n1 c1,.slice a2 n2 c2] 173);go_enter Tryz.func140,Tryz.ntmps140;go_wp2_with fail;refine(lh kind a1 a2 n1 c1 n2 c2 l _ (HL.o.later (af _ _)) HM.o).mono ?_;rintro e w1 ⟨rfl,hb1⟩;have X1:=aa (X0.o.later hb1 X0.o.lt);have B1:=aa ((af w _).trans (hb1.mono (by simp)));clear hb1;obtain⟨f0,f1,f2⟩:=X1.o.three;by_cases hm:Mx.may kind l n2=0
 ·rw[hm,aG]
  by_cases h9:(9:Int)<n1
  ·have d9:decide ((9:Int)<n1)=true:=by simpa using h9
   have HF:=aa (Mx.EY (f:=⟨kind,l,n2,bs⟩) hm (by have:=HN.o;show 9<l.length;omega));clear hm;go_wp2_with fail;go_ret;exact⟨by rw[HF.o]<;>rfl,B1.o⟩
  ·have d9:decide ((9:Int)<n1)=false:=by simpa using h9
   have HF:=aa (Mx.su (f:=⟨kind,l,n2,bs⟩) hm (by have:=HN.o;show ¬9<l.length;omega));clear hm;go_wp2_with fail;go_ret;exact⟨by rw[HF.o]<;>rfl,B1.o⟩
 ·have HF:=aa (Mx.uP (f:=⟨kind,l,n2,bs⟩) hm)
  have HE:=aa (aZ hm);rw[HE.o];clear hm;go_wp2_with fail;go_ret;exact⟨by rw[HF.o];dsimp only;rw[HE.o];rfl,B1.o⟩
namespace Mx
theorem CG {x:Int} (h:¬de x):bj x=false:=by unfold de at h;unfold bj;simp;omega
def jN (l:List Int):Int:=if l.any bj then 1 else 0
theorem xF (hk:k<l.length) (h:de (l.getD k 0)):jN l=1:=by
 unfold jN;rw[if_pos];rw[List.any_eq_true];refine⟨l[k],List.getElem_mem hk,?_⟩;rw[Ga,F0 hk] at h;unfold de at h;unfold bj;simp at h ⊢;omega
theorem any_none (h:∀ k,k<l.length→¬de (l.getD k 0)):jN l=0:=by
 unfold jN;rw[if_neg];intro h1;rw[List.any_eq_true] at h1;obtain⟨x,hx,h2⟩:=h1;obtain⟨k,hk,rfl⟩:=List.getElem_of_mem hx;have h3:=h k hk;rw[Ga,F0 hk] at h3;have h4:=CG h3;simp at h4;rw[h4] at h2;cases h2
end Mx
theorem iY (a:Option Addr) (n c:Nat) (l:List Int) (w:World) (hl:ay w a n l) (hn:n≤1000) :
 Calls Tryz.prog 142 #[.slice a n c] w fun e w'=>e=.returned (bt (Mx.jN l))∧w'=w:=by
 have HL:=aa hl;have HN:=aa hl.1;clear hl;go_enter Tryz.func142,Tryz.ntmps142;go_wp2_with fail;go_loopw [7] (fun t wr=>∃ k:Nat,k≤n∧t=.int .i64 (k:Int)∧Hid (∀ j,j<k→¬Mx.de (l.getD j 0))∧wr=w) (fun t _=>n-(intOf t).toNat)
 case atStart=>exact⟨0,by omega,rfl,aa (fun j hj=>absurd hj (by omega)),rfl⟩
 case round =>
  obtain⟨k,hk,rfl,hG,rfl⟩:=hrel;by_cases hlt:k<n
  ·obtain⟨b,off,x,hab,_,hx0,e0⟩:=HL.o.at_ k hlt
   subst hab;have hx:=aa hx0.symm;clear hx0;by_cases h1:x<0
   ·have d1:decide (x<0)=true:=by simpa using h1
    have HF:=aa (Mx.xF (l:=l) (k:=k) (by rw[HN.o];exact hlt) (by rw[←hx.o];exact .inl h1));go_wp2_with fail;go_ret;exact⟨by rw[HF.o]<;>rfl,rfl⟩
   ·have d1:decide (x<0)=false:=by simpa using h1
    by_cases h2:2147483647<x
    ·have d2:decide (2147483647<x)=true:=by simpa using h2
     have HF:=aa (Mx.xF (l:=l) (k:=k) (by rw[HN.o];exact hlt) (by rw[←hx.o];exact .inr h2));go_wp2_with fail;go_ret;exact⟨by rw[HF.o]<;>rfl,rfl⟩
    ·have d2:decide (2147483647<x)=false:=by simpa using h2
     have HG:=aa (show ∀ j,j<k+1→¬Mx.de (l.getD j 0) from fun j hj=>by
      by_cases hjk:j=k
      ·subst hjk
       rw[←hx.o];unfold Mx.de;omega
      ·exact hG.o j (by omega))
     go_wp2_with fail;go_roundw
     case rel=>exact⟨k+1,by omega,by go_num,HG,trivial⟩
     case measure=>simp[intOf];omega
  ·obtain rfl:k=n:=by omega
   have HF:=aa (Mx.any_none (l:=l) (fun j hj=>hG.o j (by rw[HN.o] at hj;exact hj)));go_wp2_with fail;go_ret;exact⟨by rw[HF.o]<;>rfl,rfl⟩
end
theorem aC:maxLen=9223372036854775807:=rfl
theorem Mx.mS {x y:Int}:Mx.jN [x,y]=if Mx.de x∨Mx.de y then 1 else 0:=by
 unfold Mx.jN Mx.de Mx.bj;simp
theorem ky (ses base:Int) (qa:Option Addr) (qn qc:Nat) (fs:List Fr) (w:World) (hq:FL w qa qn fs) :
 Calls Tryz.prog 116 #[.agg #[.int .i64 ses,.int .i64 base,.slice qa qn qc]] w fun e w'=>e=.returned (bt (Mx.bD ⟨ses,base,fs⟩))∧Gq w w':=by
 have hlm:qn≤maxLen:=hq.2.1;rw[aC] at hlm;have HQ:=aa hq;have HN:=aa hq.1;clear hq;obtain⟨w1,hw1⟩:∃ w1:World,Hid (w1=(w.alloc (.cells #[.int .i64 ses,.int .i64 base,.slice qa qn qc] 105)).alloc (.cells #[.int .i64 ses,.int .i64 base] 3)):=⟨_,rfl⟩
 have X1:=aa (show Bx w1 w.heap.size #[.int .i64 ses,.int .i64 base,.slice qa qn qc] 105 by rw[hw1.o];exact(Bx.new w _ _).alloc _);have Z1:=aa (show Bx w1 (w.heap.size+1) #[.int .i64 ses,.int .i64 base] 3 by
  rw[hw1.o];have h:=Bx.new (w.alloc (.cells #[.int .i64 ses,.int .i64 base,.slice qa qn qc] 105)) #[.int .i64 ses,.int .i64 base] 3;rw[World.size_alloc] at h;exact h)
 have I1:=aa (show ay w1 (some ⟨w.heap.size+1,0,none⟩) 2 [ses,base] from⟨rfl,by rw[aC];omega,fun _=>⟨w.heap.size+1,0,rfl,Z1.o.lt,fun i hi=>by
  match i,hi with
  | 0, _ => exact Z1.o.cell 0
  | 1, _ => exact Z1.o.cell 1⟩⟩)
 have D1:=aa (show Gq w w1 by rw[hw1.o];exact(af _ _).alloc (by simp) _);obtain⟨x0,x1,x2⟩:=X1.o.three;go_enter Tryz.func116,Tryz.ntmps116;go_wp2_with fail;rw[←hw1.o];refine(iY (some ⟨w.heap.size+1,0,none⟩) 2 2 [ses,base] w1 I1.o (by omega)).mono ?_;rintro e wz ⟨rfl,hz⟩;obtain rfl:=hz.symm;clear hz;by_cases hr:Mx.de ses∨Mx.de base
 ·have HB:=aa (show Mx.jN [ses,base]=1 by rw[Mx.mS,if_pos hr])
  have HF:=aa (Mx.DT (s:=⟨ses,base,fs⟩) hr);have he1:bt 1=.iface 28 (.int .i64 1):=rfl;rw[HB.o,he1];clear hr;go_wp2_with fail;go_ret;exact⟨by rw[HF.o]<;>rfl,D1.o⟩
 have HR:=aa hr;have HB:=aa (show Mx.jN [ses,base]=0 by rw[Mx.mS,if_neg hr]);rw[HB.o,aG];clear hr;by_cases h5:(64:Int)<qn
 ·have d5:decide ((64:Int)<qn)=true:=by simpa using h5
  have HF:=aa (Mx.DU (s:=⟨ses,base,fs⟩) HR.o (by have:=HN.o;show 64<fs.length;omega));go_wp2_with fail;go_ret;exact⟨by rw[HF.o]<;>rfl,D1.o⟩
 have d5:decide ((64:Int)<qn)=false:=by simpa using h5
 have HF:=aa (Mx.oX (s:=⟨ses,base,fs⟩) HR.o (by have:=HN.o;show ¬64<fs.length;omega));have hq64:qn≤64:=by omega
 clear h5;go_wp2_with fail;go_loopw [24] (fun t wr=>∃ k:Nat,k≤qn∧t=.int .i64 (k:Int)∧Hid (∀ g∈fs.take k,Mx.bZ g=0)∧Hid (Gq w1 wr)) (fun t _=>qn-(intOf t).toNat)
 case atStart=>exact⟨0,by omega,rfl,aa (fun g hg=>by simp at hg),aa (Below.refl _ _)⟩
 case round =>
  obtain⟨k,hk,rfl,hG,hB⟩:=hrel;have BF:=aa (D1.o.trans (hB.o.mono D1.o.size));by_cases hlt:k<qn
  ·obtain⟨b,off,f,a1,n1,c1,a2,c2,hab,hblt,hx,e0,e1,e2,hi,hbk,_⟩:=(HQ.o.later BF.o).at_ k hlt
   subst hab;have HX:=aa hx;obtain⟨kd,nm,nb,bs⟩:=f;dsimp only at e0 e1 e2 hi hbk;obtain⟨w2,hw2⟩:∃ w2:World,Hid (w2=wr.alloc (.cells #[.int .i64 kd,.slice a1 n1 c1,.slice a2 nb c2] 173)):=⟨_,rfl⟩
   have D2:=beA hw2;have HI:=aa (hi.later D2.o);have HBK:=aa hbk;have BG2:=aa (hB.o.trans (D2.o.mono hB.o.size));clear hx hi hbk;go_wp2_with fail;rw[←hw2.o];refine(dh kd a1 a2 n1 c1 nb c2 nm bs w2 HI.o HBK.o.2.1).mono ?_;rintro e w3 ⟨rfl,hb3⟩;have BG:=aa (BG2.o.trans (hb3.mono BG2.o.size));by_cases hm:Mx.bZ ⟨kd,nm,nb,bs⟩=0
   ·have HG:=aa (show ∀ g∈fs.take (k+1),Mx.bZ g=0 from fun g hg=>by
     rw[aN _ _ _ HX.o] at hg;rcases List.mem_append.1 hg with h|h
     ·exact hG.o g h
     ·simp at h
      subst h;exact hm)
    rw[hm,aG];clear hm;go_wp2_with fail;go_roundw
    case rel=>exact⟨k+1,by omega,by go_num,HG,BG⟩
    case measure=>simp[intOf];omega
   ·have HF2:=aa (Mx.DH hG.o HX.o hm)
    have HE:=aa (aZ hm);rw[HE.o];clear hm;go_wp2_with fail;go_ret;exact⟨by rw[HF.o,HF2.o,HE.o]<;>rfl,D1.o.trans (BG.o.mono D1.o.size)⟩
  ·obtain rfl:k=qn:=by omega
   have HF2:=aa (Mx.mT (l:=fs) (fun g hg=>hG.o g (by rw[Gj (by rw[HN.o];omega)];exact hg)));go_wp2_with fail;go_ret;exact⟨by rw[HF.o,HF2.o]<;>rfl,BF.o⟩
section
variable {w w':World} {a:Option Addr} {n B k base:Nat} {l:List Int} {v:Value}
theorem ay.row (h:ay w a n l):cA w a n 1 (l.map (Value.int .i64)):=by
 obtain⟨h1,h2,h3⟩:=h;refine⟨by rw[List.length_map,h1,Nat.mul_one],h2,fun hp=>?_⟩;obtain⟨b,off,ha,hlt,hc⟩:=h3 hp;refine⟨b,off,ha,hlt,fun j u hj=>?_⟩;have hjl:j<l.length:=by have:=(Gh.1 hj).1;simpa using this
 have h4:=hc j (by omega);rw[List.getElem?_map,F0 hjl] at hj;rw[Ga,F0 hjl] at h4;simp at hj h4;rw[h4,hj]
theorem ay.j5 (hl:l.length=n) (h:cA w a n 1 (l.map (Value.int .i64))):ay w a n l:=by
 obtain⟨_,h2,h3⟩:=h;refine⟨hl,h2,fun hp=>?_⟩;obtain⟨b,off,ha,hlt,hc⟩:=h3 hp;refine⟨b,off,ha,hlt,fun i hi=>?_⟩;have hil:i<l.length:=by omega
 refine hc i _ ?_;rw[List.getElem?_map,F0 hil,Ga,F0 hil];rfl
theorem aS.row (h:aS w a n l):cA w a n 8 (l.map (Value.int .u8)):=by
 obtain⟨h1,h2,_,h3⟩:=h;refine⟨by rw[List.length_map,h1,Nat.mul_comm],h2,fun hp=>?_⟩;obtain⟨b,off,ha,hlt,hc⟩:=h3 hp;refine⟨b,off,ha,hlt,fun j u hj=>?_⟩;have hjl:j<l.length:=by have:=(Gh.1 hj).1;simpa using this
 have h4:=hc j (by omega);rw[List.getElem?_map,F0 hjl] at hj;rw[Ga,F0 hjl] at h4;simp at hj h4;rw[h4,hj]
theorem aS.j5 (hl:l.length=8*n) (hb:∀ x∈l,0≤x∧x≤255) (h:cA w a n 8 (l.map (Value.int .u8))):aS w a n l:=by
 obtain⟨_,h2,h3⟩:=h;refine⟨hl,h2,hb,fun hp=>?_⟩;obtain⟨b,off,ha,hlt,hc⟩:=h3 hp;refine⟨b,off,ha,hlt,fun i hi=>?_⟩;have hil:i<l.length:=by omega
 refine hc i _ ?_;rw[List.getElem?_map,F0 hil,Ga,F0 hil];rfl
theorem cA.grownBy {w w':World} {a:Option Addr} {n size:Nat} {xs:List Value} {row:Option Nat} (h:cA w a n size xs) (hg:w.grownBy w' row) (hne:0<n→∀ p,a=some p→row≠some p.block):cA w' a n size xs:=by
 obtain⟨h1,h2,h3⟩:=h;refine⟨h1,h2,fun hp=>?_⟩;obtain⟨b,off,ha,hlt,hc⟩:=h3 hp;exact⟨b,off,ha,by have:=hg.size;omega,fun j u hj=>hg.cell (hc j u hj) (fun e=>hne hp _ ha e.symm)⟩
theorem ay.grownBy {w w':World} {a:Option Addr} {n:Nat} {l:List Int} {row:Option Nat} (h:ay w a n l) (hg:w.grownBy w' row) (hne:0<n→∀ p,a=some p→row≠some p.block):ay w' a n l:=ay.j5 h.1 (h.row.grownBy hg hne)
theorem aS.grownBy {w w':World} {a:Option Addr} {n:Nat} {l:List Int} {row:Option Nat} (h:aS w a n l) (hg:w.grownBy w' row) (hne:0<n→∀ p,a=some p→row≠some p.block):aS w' a n l:=aS.j5 h.1 h.2.2.1 (h.row.grownBy hg hne)
theorem cA.off {w:World} {a:Option Addr} {n size:Nat} {xs:List Value} (h:cA w a n size xs):0<n→∀ p,a=some p→p.block<w.heap.size:=by
 intro h0 p hp;obtain⟨b,off,ha,hlt,_⟩:=h.2.2 h0;rw[ha] at hp;cases hp
 exact hlt
theorem np (a:Option Addr) (n c:Nat) (l:List Int) (w:World) (hl:ay w a n l) (hn:n≤1000000) :
 Calls Tryz.prog 158 #[.slice a n c] w fun e w'=>∃ a2 c2,e=.returned (.slice a2 n c2)∧Hid (ay w' a2 n l)∧Hid (n≤c2)∧Hid (∀ p,a2=some p→w.heap.size≤p.block)∧Hid (Gq w w'):=by
 have q:∀ (w:World) (a:Option Addr) (n c n' c':Nat),(binOp .eql 47 (.slice a n c) (.slice none n' c')).run Tryz.prog w=.ok (.bool a.isNone) w:=fun w a n c n' c'=>Lib.run_eql_slice_nil w _ _ a n c n' c' Tryz.underlying47
 have HR:=aa hl.row;have HN:=aa hl.1;clear hl;cases a with
 | none =>
  obtain⟨rfl,hx⟩:=fA HR.o;have HX:=aa (show l=[] from List.eq_nil_of_length_eq_zero HN.o);clear hx;go_enter Tryz.func158,Tryz.ntmps158;go_wp2
  go_ret;exact⟨none,0,rfl,aa (by rw[HX.o];exact⟨rfl,by rw[aC];omega,fun h=>absurd h (by omega)⟩),aa (Gi _),aa (fun p hp=>by cases hp),aa (Below.refl _ _)⟩
 | some ad =>
  go_enter Tryz.func158,Tryz.ntmps158;obtain⟨i0,hi,hz0,hz1,hz2⟩:=info_parts Tryz.info3;go_wp2_with (at_builtin;refine wpList_append_own _ rfl _ _ 47 rfl w.heap.size 3 i0 _ 1 8 Tryz.underlying47 hi hz0 hz1 hz2 rfl (by decide) _ _ _ rfl (World.ownsRow_made w #[] 0 (Gi _) (Nat.zero_le _) (by simp)) ad n c (l.map (Value.int .i64)) rfl ?qc1 ?qc2 ?qc3 ?qc4 ?qc5 ?qc6 ?_);case qc1=>exact HR.o.1
  case qc2 =>
   intro j u hj;rcases Nat.eq_zero_or_pos n with h|h
   ·subst h
    rw[gj HR.o] at hj;simp at hj
   ·obtain⟨b,off,hb,hlt,hc⟩:=HR.o.2.2 h
    cases hb
    rw[Addr.add_lit];exact Lib.cell?_alloc_some _ (hc j u hj)
  case qc3 =>
   intro u hu;obtain⟨z,_,rfl⟩:=List.mem_map.1 hu;rfl
  case qc4=>rw[aC];omega
  case qc5=>omega
  case qc6=>simp
  intro v' w1 hown hgrow hnil;have HO:=aa hown;have HG:=aa hgrow;clear hown hgrow hnil;obtain⟨a2,c2,hv,hc,hr,ha⟩:=aA HO.o;subst hv;have HP:=aa (show ay w1 a2 n l from ay.j5 HN.o hr);have HA:=aa ha;clear hr ha;go_wp2
  go_ret;exact⟨a2,c2,rfl,HP,aa hc,HA,aa (((Below.refl _ w).alloc (Gi _) _).grown HG.o (by simp) (by intro k hk;simp[Value.ownBlock] at hk;omega))⟩
theorem nr (a:Option Addr) (n c:Nat) (l:List Int) (w:World) (hl:aS w a n l) (hn:n≤1000000) :
 Calls Tryz.prog 95 #[.slice a n c] w fun e w'=>∃ a2 c2,e=.returned (.slice a2 n c2)∧Hid (aS w' a2 n l)∧Hid (n≤c2)∧Hid (∀ p,a2=some p→w.heap.size≤p.block)∧Hid (Gq w w'):=by
 have q:∀ (w:World) (a:Option Addr) (n c n' c':Nat),(binOp .eql 38 (.slice a n c) (.slice none n' c')).run Tryz.prog w=.ok (.bool a.isNone) w:=fun w a n c n' c'=>Lib.run_eql_slice_nil w _ _ a n c n' c' Tryz.underlying38
 have HR:=aa hl.row;have HN:=aa hl.1;have HBD:=aa hl.2.2.1;clear hl;cases a with
 | none =>
  obtain⟨rfl,hx⟩:=fA HR.o;have HX:=aa (show l=[] from List.eq_nil_of_length_eq_zero HN.o);clear hx;go_enter Tryz.func95,Tryz.ntmps95;go_wp2
  go_ret;exact⟨none,0,rfl,aa (by rw[HX.o];exact⟨rfl,by rw[aC];omega,by simp,fun h=>absurd h (by omega)⟩),aa (Gi _),aa (fun p hp=>by cases hp),aa (Below.refl _ _)⟩
 | some ad =>
  go_enter Tryz.func95,Tryz.ntmps95;obtain⟨i0,hi,hz0,hz1,hz2⟩:=info_parts Tryz.info33;go_wp2_with (at_builtin;refine wpList_append_own _ rfl _ _ 38 rfl w.heap.size 33 i0 _ 8 8 Tryz.underlying38 hi hz0 hz1 hz2 rfl (by decide) _ _ _ rfl (World.ownsRow_made w #[] 0 (Gi _) (Nat.zero_le _) (by simp)) ad n c (l.map (Value.int .u8)) rfl ?qc1 ?qc2 ?qc3 ?qc4 ?qc5 ?qc6 ?_);case qc1=>exact HR.o.1
  case qc2 =>
   intro j u hj;rcases Nat.eq_zero_or_pos n with h|h
   ·subst h
    rw[gj HR.o] at hj;simp at hj
   ·obtain⟨b,off,hb,hlt,hc⟩:=HR.o.2.2 h
    cases hb
    rw[Addr.add_lit];exact Lib.cell?_alloc_some _ (hc j u hj)
  case qc3 =>
   intro u hu;obtain⟨z,_,rfl⟩:=List.mem_map.1 hu;rfl
  case qc4=>rw[aC];omega
  case qc5=>omega
  case qc6=>simp
  intro v' w1 hown hgrow hnil;have HO:=aa hown;have HG:=aa hgrow;clear hown hgrow hnil;obtain⟨a2,c2,hv,hc,hr,ha⟩:=aA HO.o;subst hv;have HP:=aa (show aS w1 a2 n l from aS.j5 HN.o HBD.o hr);have HA:=aa ha;clear hr ha;go_wp2
  go_ret;exact⟨a2,c2,rfl,HP,aa hc,HA,aa (((Below.refl _ w).alloc (Gi _) _).grown HG.o (by simp) (by intro k hk;simp[Value.ownBlock] at hk;omega))⟩
def FLA (B:Nat) (w:World) (a:Option Addr) (k:Nat) (fs:List Fr):Prop :=
 fs.length=k∧k≤maxLen∧(0<k→∃ b off,a=some ⟨b,off,none⟩∧B≤b∧b<w.heap.size∧∀ i f,fs[i]?=some f→∃ a1 n1 c1 a2 c2,w.cell? ⟨b,off+i*3,none⟩=some (.int .i64 f.kind)∧w.cell? ⟨b,off+i*3+1,none⟩=some (.slice a1 n1 c1)∧w.cell? ⟨b,off+i*3+2,none⟩=some (.slice a2 f.nb c2)∧ay w a1 n1 f.al∧aS w a2 f.nb f.bs∧n1≤c1∧f.nb≤c2∧(0<n1→∀ p,a1=some p→B≤p.block)∧(0<f.nb→∀ p,a2=some p→B≤p.block))
theorem FLA.nil (B:Nat) (w:World):FLA B w none 0 []:=⟨rfl,by rw[aC];omega,fun h=>absurd h (by omega)⟩
theorem FLA.fl {fs:List Fr} (h:FLA B w a k fs):FL w a k fs:=by
 obtain⟨h1,h2,h4⟩:=h;refine⟨h1,h2,fun hp=>?_⟩;obtain⟨b,off,ha,_,hlt,hc⟩:=h4 hp;refine⟨b,off,ha,hlt,fun i f hf=>?_⟩;obtain⟨a1,n1,c1,a2,c2,e1,e2,e3,e4,e5,e6,e7,_⟩:=hc i f hf;exact⟨a1,n1,c1,a2,c2,e1,e2,e3,e4,e5,e6,e7⟩
theorem FLA.later {B:Nat} {w w':World} {a:Option Addr} {k:Nat} {fs:List Fr} (h:FLA B w a k fs) (hb:Gq w w'):FLA B w' a k fs:=by
 obtain⟨h1,h2,h4⟩:=h;refine⟨h1,h2,fun hp=>?_⟩;obtain⟨b,off,ha,hB,hlt,hc⟩:=h4 hp;refine⟨b,off,ha,hB,by have:=hb.size;omega,fun i f hf=>?_⟩;obtain⟨a1,n1,c1,a2,c2,e1,e2,e3,e4,e5,e6⟩:=hc i f hf;exact⟨a1,n1,c1,a2,c2,(hb.cell (p:=⟨b,off+i*3,none⟩) hlt).trans e1,(hb.cell (p:=⟨b,off+i*3+1,none⟩) hlt).trans e2,(hb.cell (p:=⟨b,off+i*3+2,none⟩) hlt).trans e3,e4.later hb,e5.later hb,e6⟩
theorem FLA.grown {g:Nat} {fs:List Fr} (h:FLA B w a k fs) (hg:w.grownBy w' (some g)) (hB:g<B):FLA B w' a k fs:=by
 obtain⟨h1,h2,h4⟩:=h;refine⟨h1,h2,fun hp=>?_⟩;obtain⟨b,off,ha,hb,hlt,hc⟩:=h4 hp;have hne:∀ o,some (⟨b,o,none⟩:Addr).block≠some g:=fun o e=>by have:b=g:=Gg e;omega
 refine⟨b,off,ha,hb,by have:=hg.size;omega,fun i f hf=>?_⟩;obtain⟨a1,n1,c1,a2,c2,e1,e2,e3,e4,e5,e6,e7,e8,e9⟩:=hc i f hf;exact⟨a1,n1,c1,a2,c2,hg.cell e1 (hne _),hg.cell e2 (hne _),hg.cell e3 (hne _),e4.grownBy hg (fun h0 p hp e=>by have:=e8 h0 p hp;have:g=p.block:=Gg e;omega),e5.grownBy hg (fun h0 p hp e=>by have:=e9 h0 p hp;have:g=p.block:=Gg e;omega),e6,e7,e8,e9⟩
def Fps (B:Nat) (w:World) (vs:List Value) (fs:List Fr) (row:Option Nat):Prop :=
 ∀ (i:Nat) (f:Fr),fs[i]?=some f→∃ (a1:Option Addr) (n1 c1:Nat) (a2:Option Addr) (c2:Nat),vs[i*3]?=some (.int .i64 f.kind)∧vs[i*3+1]?=some (.slice a1 n1 c1)∧vs[i*3+2]?=some (.slice a2 f.nb c2)∧ay w a1 n1 f.al∧aS w a2 f.nb f.bs∧n1≤c1∧f.nb≤c2 ∧
  (0<n1→∀ p,a1=some p→row≠some p.block∧B≤p.block)∧(0<f.nb→∀ p,a2=some p→row≠some p.block∧B≤p.block)
def bV (B:Nat) (w:World) (base:Nat) (v:Value) (fs:List Fr):Prop:=∃ vs:List Value,w.ownsRow base 173 3 v fs.length vs∧Fps B w vs fs v.ownBlock
theorem Tryz.infoFr:(Tryz.prog.info? 173).map (fun i=>(i.zero,i.size,i.bytes))=some (some (.agg #[.int .i64 0,.slice none 0 0,.slice none 0 0]),3,56):=by kernel_rfl
theorem bV.nil (B:Nat) (w:World) (base:Nat):bV B w base (.slice none 0 0) []:=⟨[],World.ownsRow_nil w base _ 3,fun i e he=>by simp at he⟩
theorem bV.later {B:Nat} {w w':World} {base:Nat} {v:Value} {fs:List Fr} (h:bV B w base v fs) (hb:Gq w w'):bV B w' base v fs:=by
 obtain⟨vs,h1,h2⟩:=h;refine⟨vs,bm h1 hb,fun i f hf=>?_⟩;obtain⟨a1,n1,c1,a2,c2,e1,e2,e3,e4,e5,e6⟩:=h2 i f hf;exact⟨a1,n1,c1,a2,c2,e1,e2,e3,e4.later hb,e5.later hb,e6⟩
theorem bV.lt {B:Nat} {w:World} {base:Nat} {v:Value} {fs:List Fr} (h:bV B w base v fs):∀ k,v.ownBlock=some k→base≤k∧k<w.heap.size:=by
 obtain⟨vs,h1,_⟩:=h;exact World.ownsRow.lt h1
theorem bV.fla {fs:List Fr} (h:bV B w base v fs) (hB:B≤base):∃ a c,v=.slice a fs.length c∧fs.length≤c∧FLA B w a fs.length fs:=by
 obtain⟨vs,h1,h2⟩:=h;obtain⟨a,c,hv,hle,hr,hp⟩:=aA h1;refine⟨a,c,hv,hle,rfl,hr.2.1,fun h0=>?_⟩;obtain⟨b,off,ha,hlt,hc⟩:=hr.2.2 h0;have hbb:base≤b:=hp _ ha;refine⟨b,off,ha,by omega,hlt,fun i f hf=>?_⟩;obtain⟨a1,n1,c1,a2,c2,e1,e2,e3,e4,e5,e6,e7,e8,e9⟩:=h2 i f hf;exact⟨a1,n1,c1,a2,c2,hc _ _ e1,hc _ _ e2,hc _ _ e3,e4,e5,e6,e7,fun h0 p hp=>(e8 h0 p hp).2,fun h0 p hp=>(e9 h0 p hp).2⟩
theorem pH {m:Nat} {v':Value} {fs fs2:List Fr} {vs news:List Value} (h1:w.ownsRow base 173 3 v fs.length vs) (h2:Fps B w vs fs v.ownBlock) (hfs:Fps B w news fs2 v.ownBlock) (hm:fs2.length=m)
 (hown':w'.ownsRow base 173 3 v' (fs.length+m) (vs++news)) (hg:w.grownBy w' v.ownBlock) (hat:v'.ownBlock=v.ownBlock∨v'.ownBlock=some w.heap.size):bV B w' base v' (fs++fs2):=by
 have hvne:∀ (p:Addr),p.block<w.heap.size→v.ownBlock≠some p.block→v'.ownBlock≠some p.block:=by
  intro p hlt hne e;rcases hat with h|h
  ·exact hne (h.symm.trans e)
  ·rw[h] at e
   simp at e;omega
 have hvl:vs.length=fs.length*3:=h1.1;have fI:∀ {a':Option Addr} {n':Nat} {l:List Int},ay w a' n' l→(0<n'→∀ p,a'=some p→v.ownBlock≠some p.block∧B≤p.block)→ay w' a' n' l∧(0<n'→∀ p,a'=some p→v'.ownBlock≠some p.block∧B≤p.block) :=
  fun hp hne=>⟨hp.grownBy hg (fun h0 p hpa=>(hne h0 p hpa).1),fun h0 p hpa=>⟨hvne _ (hp.row.off h0 p hpa) (hne h0 p hpa).1,(hne h0 p hpa).2⟩⟩
 have fK:∀ {a':Option Addr} {n':Nat} {l:List Int},aS w a' n' l→(0<n'→∀ p,a'=some p→v.ownBlock≠some p.block∧B≤p.block)→aS w' a' n' l∧(0<n'→∀ p,a'=some p→v'.ownBlock≠some p.block∧B≤p.block) :=
  fun hp hne=>⟨hp.grownBy hg (fun h0 p hpa=>(hne h0 p hpa).1),fun h0 p hpa=>⟨hvne _ (hp.row.off h0 p hpa) (hne h0 p hpa).1,(hne h0 p hpa).2⟩⟩
 refine⟨vs++news,by rw[Ge,hm];exact hown',fun i f hf=>?_⟩;by_cases hi':i<fs.length
 ·rw[Gm hi'] at hf
  obtain⟨a1,n1,c1,a2,c2,e1,e2,e3,e4,e5,e6,e7,e8,e9⟩:=h2 i f hf;have g1:=fI e4 e8;have g2:=fK e5 e9;exact⟨a1,n1,c1,a2,c2,by rw[Gm (by omega)];exact e1,by rw[Gm (by omega)];exact e2,by rw[Gm (by omega)];exact e3,g1.1,g2.1,e6,e7,g1.2,g2.2⟩
 ·rw[Gl (by omega)] at hf
  obtain⟨a1,n1,c1,a2,c2,e1,e2,e3,e4,e5,e6,e7,e8,e9⟩:=hfs _ f hf;have g1:=fI e4 e8;have g2:=fK e5 e9;refine⟨a1,n1,c1,a2,c2,?_,?_,?_,g1.1,g2.1,e6,e7,g1.2,g2.2⟩
  ·rw[Gl (by omega),hvl,show i*3-fs.length*3=(i-fs.length)*3 by omega]
   exact e1
  ·rw[Gl (by omega),hvl,show i*3+1-fs.length*3=(i-fs.length)*3+1 by omega]
   exact e2
  ·rw[Gl (by omega),hvl,show i*3+2-fs.length*3=(i-fs.length)*3+2 by omega]
   exact e3
theorem qS (ty:TypeId) (B base:Nat) (v:Value) (fs:List Fr) (hown:bV B w base v fs) (h0:Nat) (kd:Int) (a1:Option Addr) (n1 c1:Nat) (a2:Option Addr) (n2 c2:Nat) (nm bs:List Int)
 (hB:Bx w h0 #[.int .i64 kd,.slice a1 n1 c1,.slice a2 n2 c2] 173) (hi:ay w a1 n1 nm) (hk:aS w a2 n2 bs) (hc1:n1≤c1) (hc2:n2≤c2)
 (hp1:0<n1→∀ p,a1=some p→v.ownBlock≠some p.block∧B≤p.block) (hp2:0<n2→∀ p,a2=some p→v.ownBlock≠some p.block∧B≤p.block) (hl:fs.length≤100000) (hbase:base≤w.heap.size) :
 ∃ v' w',(Builtin.append_ #[103,103] ty #[v,.slice (some ⟨h0,0,none⟩) 1 1]).run Tryz.prog w=.ok v' w'∧bV B w' base v' (fs++[⟨kd,nm,n2,bs⟩])∧w.grownBy w' v.ownBlock:=by
 obtain⟨vs,h1,h2⟩:=hown;obtain⟨i0,hi0,hz0,hz1,hz2⟩:=info_parts Tryz.infoFr;obtain⟨v',w',hr,hown',hg,_,hat⟩:=run_append_own_at (P:=Tryz.prog) w base 103 ty 173 i0 _ 3 56 Tryz.underlying103 hi0 hz0 hz1 hz2 rfl (by decide) v fs.length vs h1 ⟨h0,0,none⟩ 1 1 [.int .i64 kd,.slice a1 n1 c1,.slice a2 n2 c2] rfl (fun j u hj=>by
  rw[Addr.add_lit,Nat.zero_add,hB.cell j];simpa using hj) (by simp[Value.oneCell']) (by rw[aC];omega) (by omega) hbase
 refine⟨v',w',hr,pH h1 h2 (fun i f hf=>?_) rfl hown' hg hat,hg⟩
 match i,hf with
 | 0, hf =>
  simp at hf;subst hf;exact⟨a1,n1,c1,a2,c2,rfl,rfl,rfl,hi,hk,hc1,hc2,hp1,hp2⟩
 | i + 1, hf => simp at hf
theorem ke {ops:Array Oper} {o:Oper} {a:Act} {K:Act→World→Prop} {Q:Exit→Act→World→Prop} {E:Prop} (hgd:o.guard=none) (s y:Operand)
 (ho:o.op=Op.call {callee:=Callee.builtin Builtin.append,args:=#[s,y],argTypes:=#[103,103]}) (B base:Nat) {fs:List Fr} (hs:a.eval s=v) (hown:bV B w base v fs) (h0:Nat) {kd:Int} {a1:Option Addr} {n1 c1:Nat} {a2:Option Addr} {n2 c2:Nat} {nm bs:List Int}
 (hy:a.eval y=.slice (some ⟨h0,0,none⟩) 1 1) (hB:Bx w h0 #[.int .i64 kd,.slice a1 n1 c1,.slice a2 n2 c2] 173) (hi:ay w a1 n1 nm) (hk:aS w a2 n2 bs) (hc1:n1≤c1) (hc2:n2≤c2)
 (hp1:0<n1→∀ p,a1=some p→v.ownBlock≠some p.block∧B≤p.block) (hp2:0<n2→∀ p,a2=some p→v.ownBlock≠some p.block∧B≤p.block) (hl:fs.length≤100000) (hbase:base≤w.heap.size)
 (hK:∀ v' w',Hid (bV B w' base v' (fs++[⟨kd,nm,n2,bs⟩]))→Hid (w.grownBy w' v.ownBlock)→K (a.put o.dst v') w') :
 if Region.wanted o (yielded ops a.tmps)=true then Oper.wp Tryz.prog o a w K Q else E:=by
 have hw:Region.wanted o (yielded ops a.tmps)=true:=by simp[Region.wanted,hgd]
 rw[if_pos hw];subst hs;obtain⟨v',w',hr,h1,h2⟩:=qS o.type B base (a.eval s) fs hown h0 kd a1 n1 c1 a2 n2 c2 nm bs hB hi hk hc1 hc2 hp1 hp2 hl hbase;unfold Oper.wp execOp;simp only[ho,resolve,invoke,builtin,Sem.run_bind,Sem.run_pure,Result.andThen_ok,List.map_toArray,List.map_cons,List.map_nil,hy,hr];exact hK _ _ h1 h2
end
section
variable {w w':World} {g B:Nat} {t:TypeId} {a0 a1:Value}
theorem Bx.pair {s0 s1:Value} (h:Bx w g #[s0,s1] t):w.cell? ⟨g,0,none⟩=some s0∧w.cell? ⟨g,1,none⟩=some s1:=⟨h.cell 0,h.cell 1⟩
theorem Bx.fD (h:Bx w g #[a0,a1] t) (s0 s1:Value):Bx ((w.setCell ⟨g,0,none⟩ s0).setCell ⟨g,1,none⟩ s1) g #[s0,s1] t:=(h.set 0 s0).set 1 s1
def ew (w:World) (g:Nat) (s0 s1:Value):World:=(w.setCell ⟨g,0,none⟩ s0).setCell ⟨g,1,none⟩ s1
theorem dM (h:Below B w w') (hg:B≤g) (s0 s1:Value):Below B w (ew w' g s0 s1):=(h.setCell (p:=⟨g,0,none⟩) hg _).setCell (p:=⟨g,1,none⟩) hg _
theorem iO (h:w.grownBy w' (some g)) (s0 s1:Value):w.grownBy (ew w' g s0 s1) (some g):=ak (ak h _ _) _ _
theorem Bx.aH {a2:Value} (h:Bx w g #[a0,a1,a2] t) (s0 s1 s2:Value):Bx (((w.setCell ⟨g,0,none⟩ s0).setCell ⟨g,1,none⟩ s1).setCell ⟨g,2,none⟩ s2) g #[s0,s1,s2] t:=((h.set 0 s0).set 1 s1).set 2 s2
def ca (w:World) (g:Nat) (s0 s1 s2:Value):World:=((w.setCell ⟨g,0,none⟩ s0).setCell ⟨g,1,none⟩ s1).setCell ⟨g,2,none⟩ s2
theorem aF (h:Below B w w') (hg:B≤g) (s0 s1 s2:Value):Below B w (ca w' g s0 s1 s2):=((h.setCell (p:=⟨g,0,none⟩) hg _).setCell (p:=⟨g,1,none⟩) hg _).setCell (p:=⟨g,2,none⟩) hg _
theorem bp (h:w.grownBy w' (some g)) (s0 s1 s2:Value):w.grownBy (ca w' g s0 s1 s2) (some g):=ak (ak (ak h _ _) _ _) _ _
end
theorem eP {w1 w2:World} (h:Below w1.drew.heap.size w1.drew w2):Gq w1 w2:=(Below.refl _ _).drew.trans h
def FrA (B:Nat) (w:World) (v:Value) (f:Fr):Prop :=
 ∃ (a1:Option Addr) (n1 c1:Nat) (a2:Option Addr) (c2:Nat),v=.agg #[.int .i64 f.kind,.slice a1 n1 c1,.slice a2 f.nb c2]∧ay w a1 n1 f.al∧aS w a2 f.nb f.bs∧n1≤c1∧f.nb≤c2∧(0<n1→∀ p,a1=some p→B≤p.block)∧(0<f.nb→∀ p,a2=some p→B≤p.block)
theorem kA (kd:Int) (a1 a2:Option Addr) (n1 c1 n2 c2:Nat) (l bs:List Int) (w:World) (h1:ay w a1 n1 l) (h2:aS w a2 n2 bs) (hn1:n1≤1000) (hn2:n2≤1000) :
 Calls Tryz.prog 141 #[.agg #[.int .i64 kd,.slice a1 n1 c1,.slice a2 n2 c2]] w fun e w'=>∃ v,e=.returned v∧Hid (FrA w.heap.size w' v ⟨kd,l,n2,bs⟩)∧Hid (Gq w w'):=by
 obtain⟨W0,hW0⟩:∃ W0:World,Hid (W0=(w.alloc (.cells #[.int .i64 kd,.slice a1 n1 c1,.slice a2 n2 c2] 173)).alloc (.cells #[.int .i64 0,.slice none 0 0,.slice none 0 0] 173)):=⟨_,rfl⟩
 have X0:=aa (show Bx W0 w.heap.size #[.int .i64 kd,.slice a1 n1 c1,.slice a2 n2 c2] 173 by rw[hW0.o];exact(Bx.new w _ _).alloc _);have R0:=aa (show Bx W0 (w.heap.size+1) #[.int .i64 0,.slice none 0 0,.slice none 0 0] 173 by
  rw[hW0.o];have h:=Bx.new (w.alloc (.cells #[.int .i64 kd,.slice a1 n1 c1,.slice a2 n2 c2] 173)) #[.int .i64 0,.slice none 0 0,.slice none 0 0] 173;rw[World.size_alloc] at h;exact h)
 have D0:=aa (show Gq w W0 by rw[hW0.o];exact(af _ _).alloc (by simp) _);have HI:=aa (h1.later D0.o);have HK:=aa (h2.later D0.o);have hx0:w.heap.size<W0.heap.size:=X0.o.lt;have hr0:w.heap.size+1<W0.heap.size:=R0.o.lt;have hrx:¬w.heap.size+1=w.heap.size:=by omega
 have hi6:n1≤1000000:=by omega
 have hk6:n2≤1000000:=by omega
 clear h1 h2;obtain⟨b0,b1,b2⟩:=X0.o.three;go_enter Tryz.func141,Tryz.ntmps141;go_wp2_with fail;rw[←hW0.o];go_region_held3 (fun w'=>w'.cell? ⟨w.heap.size,0,none⟩=some (.int .i64 kd)∧w'.cell? ⟨w.heap.size,1,none⟩=some (.slice a1 n1 c1)∧w'.cell? ⟨w.heap.size,2,none⟩=some (.slice a2 n2 c2))
  (first
    | with_reducible exact ⟨b0, b1, b2⟩
    |(simp only[an];with_reducible exact⟨b0,b1,b2⟩)
    | with_reducible exact ⟨d0, d1, d2⟩
    | with_reducible exact ⟨e0, e1, e2⟩
    |(simp only[aw hrx];with_reducible exact⟨d0,d1,d2⟩))
  (first
    |(go_at_call 158;(with_reducible refine(np a1 n1 c1 l W0.drew (HI.o.later (Below.refl _ _).drew) hi6).mono ?_);rintro e w2 ⟨x1,k1,rfl,P1,C1,A1,B1⟩;have D2:=aa (eP B1.o);obtain⟨e0,e1,e2⟩:=(X0.o.later D2.o hx0).three)
    |(go_at_call 95;(with_reducible refine(nr a2 n2 c2 bs W0.drew (HK.o.later (Below.refl _ _).drew) hk6).mono ?_);rintro e w2 ⟨x2,k2,rfl,P2,C2,A2,B2⟩;have D2:=aa (eP B2.o);obtain⟨e0,e1,e2⟩:=(X0.o.later D2.o hx0).three)
    |(go_at_call 95;(with_reducible refine(nr a2 n2 c2 bs w2 (HK.o.later D2.o) hk6).mono ?_);rintro e w3 ⟨x2,k2,rfl,P2',C2,A2',B2⟩;have D3:=aa (show Gq W0 w3 from D2.o.trans (B2.o.mono D2.o.size));have P1':=aa (P1.o.later B2.o);have A1':=aa (show ∀ p,x1=some p→W0.heap.size≤p.block from A1.o);have A2'':=aa (show ∀ p,x2=some p→W0.heap.size≤p.block from fun p hp=>Gn D2.o.size (A2'.o p hp));obtain⟨d0,d1,d2⟩:=(X0.o.later D3.o hx0).three;have R3:=aa (R0.o.later D3.o hr0);obtain⟨r0,r1,r2⟩:=R3.o.three;have rz:=R3.o.frozen)
    |(go_at_call 158;(with_reducible refine(np a1 n1 c1 l w2 (HI.o.later D2.o) hi6).mono ?_);rintro e w3 ⟨x1,k1,rfl,P1',C1,A1,B1⟩;have D3:=aa (show Gq W0 w3 from D2.o.trans (B1.o.mono D2.o.size));have P2':=aa (P2.o.later B1.o);have A2'':=aa (show ∀ p,x2=some p→W0.heap.size≤p.block from A2.o);have A1':=aa (show ∀ p,x1=some p→W0.heap.size≤p.block from fun p hp=>Gn D2.o.size (A1.o p hp));obtain⟨d0,d1,d2⟩:=(X0.o.later D3.o hx0).three;have R3:=aa (R0.o.later D3.o hr0);obtain⟨r0,r1,r2⟩:=R3.o.three;have rz:=R3.o.frozen))
 all_goals
  have GF:=aa (bp (aq w3 (some (w.heap.size+1))) (.int .i64 kd) (.slice x1 n1 k1) (.slice x2 n2 k2));have PF:=aa (P1'.o.grownBy GF.o (fun _ p hp e=>by have h1:=A1'.o p hp;have h2:w.heap.size+1=p.block:=Gg e;omega));have KF:=aa (P2'.o.grownBy GF.o (fun _ p hp e=>by have h1:=A2''.o p hp;have h2:w.heap.size+1=p.block:=Gg e;omega));have BF:=aa (show Gq w (ca w3 (w.heap.size+1) (.int .i64 kd) (.slice x1 n1 k1) (.slice x2 n2 k2)) from aF (D0.o.trans (D3.o.mono D0.o.size)) (by omega) _ _ _);go_wp2_with fail;obtain⟨t0,t1,t2⟩:=(R3.o.aH (.int .i64 kd) (.slice x1 n1 k1) (.slice x2 n2 k2)).three;exact bodyPost_ret (v:=.agg #[.int .i64 kd,.slice x1 n1 k1,.slice x2 n2 k2]) (by simp[results,Tryz.results141,go_sem,t0,t1,t2]) rfl ⟨_,rfl,⟨x1,n1,k1,x2,k2,rfl,PF.o,KF.o,C1.o,C2.o,fun _ p hp=>by have h1:=A1'.o p hp;omega,fun _ p hp=>by have h1:=A2''.o p hp;omega⟩,BF⟩
theorem m6 {w:World} {ops:Array Oper} {rest:List Oper} {o:Oper} {a:Act} {Q:Exit→Act→World→Prop} (hgd:o.guard=none) (s x:Operand)
 (ho:o.op=.call {callee:=.builtin .append,args:=#[s,x],argTypes:=#[103,103]}) (B base:Nat) (fs:List Fr) (hown:bV B w base (a.eval s) fs) (h0:Nat) (kd:Int) (a1:Option Addr) (n1 c1:Nat) (a2:Option Addr) (n2 c2:Nat) (nm bs:List Int)
 (hx:a.eval x=.slice (some ⟨h0,0,none⟩) 1 1) (hB:Bx w h0 #[.int .i64 kd,.slice a1 n1 c1,.slice a2 n2 c2] 173) (hi:ay w a1 n1 nm) (hk:aS w a2 n2 bs) (hc1:n1≤c1) (hc2:n2≤c2)
 (hp1:0<n1→∀ p,a1=some p→(a.eval s).ownBlock≠some p.block∧B≤p.block) (hp2:0<n2→∀ p,a2=some p→(a.eval s).ownBlock≠some p.block∧B≤p.block) (hl:fs.length≤100000) (hbase:base≤w.heap.size)
 (h:∀ v' w',bV B w' base v' (fs++[⟨kd,nm,n2,bs⟩])→w.grownBy w' (a.eval s).ownBlock→wpList Tryz.prog ops Q rest (a.put o.dst v') w') :
 wpList Tryz.prog ops Q (o::rest) a w:=by
 obtain⟨vs,h1,h2⟩:=hown;obtain⟨i0,hi0,hz0,hz1,hz2⟩:=info_parts Tryz.infoFr;refine wpList_append_own_at _ hgd s x 103 ho base 173 i0 _ 3 56 Tryz.underlying103 hi0 hz0 hz1 hz2 rfl (by decide) (a.eval s) fs.length vs rfl h1 ⟨h0,0,none⟩ 1 1 [.int .i64 kd,.slice a1 n1 c1,.slice a2 n2 c2] hx rfl (fun j u hj=>by
  rw[Addr.add_lit,Nat.zero_add,hB.cell j];simpa using hj) (by simp[Value.oneCell']) (by rw[aC];omega) (by omega) hbase ?_
 intro v' w' hown' hg _ hat;refine h v' w' (pH h1 h2 (fun i f hf=>?_) rfl hown' hg hat) hg
 match i,hf with
 | 0, hf =>
  simp at hf;subst hf;exact⟨a1,n1,c1,a2,c2,rfl,rfl,rfl,hi,hk,hc1,hc2,hp1,hp2⟩
 | i + 1, hf => simp at hf
theorem eQ (qa:Option Addr) (qn qc:Nat) (fs:List Fr) (w:World) (hq:FL w qa qn fs) (hn:qn≤1000) (hps:∀ f∈fs,f.al.length≤1000∧f.nb≤1000) :
 Calls Tryz.prog 124 #[.slice qa qn qc] w fun e w'=>∃ v,e=.returned v∧Hid (bV w.heap.size w' w.heap.size v fs)∧Hid (Gq w w'):=by
 have HQ:=aa hq;have HN:=aa hq.1;have HPS:=aa hps;clear hq hps;go_enter Tryz.func124,Tryz.ntmps124;go_wp2_with fail;go_loopw [3,8] (fun s t wr=>∃ (j:Nat),j≤qn∧t=.int .i64 (j:Int)∧Hid (bV w.heap.size wr w.heap.size s (fs.take j))∧Hid (Gq w wr)) (fun _ t _=>qn-(intOf t).toNat)
 case atStart=>exact⟨0,by omega,rfl,bV.nil _ _ _,Below.refl _ _⟩
 case round =>
  obtain⟨j,hj,rfl,hO,hB⟩:=hrel;by_cases hlt:j<qn
  ·obtain⟨b,off,f,a1,n1,c1,a2,c2,hab,hblt,hx,e0,e1,e2,hi,hbk,_⟩:=(HQ.o.later hB.o).at_ j hlt
   subst hab;have HX:=aa hx;have hsz:=HPS.o _ (Gp hx);obtain⟨kd,nm,nb,bs⟩:=f;dsimp only at e0 e1 e2 hi hbk hsz;have hn1:n1≤1000:=by have:=hi.1;omega
   have hn2:nb≤1000:=hsz.2;obtain⟨w2,hw2⟩:∃ w2:World,Hid (w2=wr.alloc (.cells #[.int .i64 kd,.slice a1 n1 c1,.slice a2 nb c2] 173)):=⟨_,rfl⟩
   have D2:=beA hw2;have HI:=aa (hi.later D2.o);have HK:=aa (hbk.later D2.o);have HO2:=aa (hO.o.later D2.o);have BG:=aa (hB.o.trans (D2.o.mono hB.o.size));have HTL:=aa (show(fs.take j).length≤100000 by rw[Gk];omega);clear hx hi hbk hsz;go_wp2_with fail;rw[←hw2.o];refine(kA kd a1 a2 n1 c1 nb c2 nm bs w2 HI.o HK.o hn1 hn2).mono ?_;rintro e w3 ⟨v3,rfl,F3,D3⟩;have F3':=F3.o;obtain⟨x1,m1,k1,x2,k2,rfl,g1,g2,g3,g4,g5,g6⟩:=F3';dsimp only at g1 g2 g4 g5 g6;obtain⟨w4,hw4⟩:∃ w4:World,Hid (w4=w3.alloc (.cells #[.int .i64 kd,.slice x1 m1 k1,.slice x2 nb k2] 173)):=⟨_,rfl⟩
   have D4:=beA hw4;have Z4:=bxA hw4;have I4:=aa (g1.later D4.o);have K4:=aa (g2.later D4.o);have HC1:=aa g3;have HC2:=aa g4;have D24:=aa (show Gq w2 w4 from D3.o.trans (D4.o.mono D3.o.size));have O4:=aa (HO2.o.later D24.o);have B4:=aa (BG.o.trans (D24.o.mono BG.o.size));have Q1:=aa (show 0<m1→∀ p,x1=some p→u3.ownBlock≠some p.block∧w.heap.size≤p.block from fun h0 p hp=>⟨fun e=>by have h1:=(HO2.o.lt _ e).2;have h2:=g5 h0 p hp;omega,by have h2:=g5 h0 p hp;have h3:=BG.o.size;omega⟩);have Q2:=aa (show 0<nb→∀ p,x2=some p→u3.ownBlock≠some p.block∧w.heap.size≤p.block from fun h0 p hp=>⟨fun e=>by have h1:=(HO2.o.lt _ e).2;have h2:=g6 h0 p hp;omega,by have h2:=g6 h0 p hp;have h3:=BG.o.size;omega⟩);clear g1 g2 g3 g4 g5 g6;go_wp2_with (at_builtin;rw[←hw4.o];refine m6 (w:=w4) rfl _ _ rfl w.heap.size w.heap.size (fs.take j) ?o1 w3.heap.size kd x1 m1 k1 x2 nb k2 nm bs ?o2 ?o3 ?o4 ?o5 ?o6 ?o7 ?o8 ?o9 ?o10 ?o11 ?_);case o1=>exact O4.o
   case o2=>rfl
   case o3=>exact Z4.o
   case o4=>exact I4.o
   case o5=>exact K4.o
   case o6=>exact HC1.o
   case o7=>exact HC2.o
   case o8=>exact Q1.o
   case o9=>exact Q2.o
   case o10=>exact HTL.o
   case o11=>exact B4.o.size
   intro v5 w5 hO5 hG5;have O5:=aa (show bV w.heap.size w5 w.heap.size v5 (fs.take (j+1)) by rw[aN _ _ _ HX.o];exact hO5);have B5:=aa (show Gq w w5 from B4.o.grown hG5 B4.o.size (fun i hi=>(O4.o.lt i hi).1));clear hO5 hG5;go_wp2_with fail;go_roundw
   case rel=>exact⟨j+1,by omega,by go_num,O5,B5⟩
   case measure=>simp[intOf];omega
  ·obtain rfl:j=qn:=by omega
   have OF:=aa (show bV w.heap.size wr w.heap.size u3 fs by
    have h:=hO.o;rw[Gj (by rw[HN.o];omega)] at h;exact h)
   go_wp2_with fail;go_ret;exact⟨_,rfl,OF,hB⟩
theorem FL.take {w:World} {a:Option Addr} {k:Nat} {fs:List Fr} (h:FL w a k fs) (j:Nat) (hj:j≤k):FL w a j (fs.take j):=by
 obtain⟨h1,h2,h4⟩:=h;refine⟨by rw[Gk];omega,by omega,fun hp=>?_⟩;obtain⟨b,off,ha,hlt,hc⟩:=h4 (by omega);refine⟨b,off,ha,hlt,fun i f hf=>hc i f ?_⟩;rw[List.getElem?_take] at hf;split at hf
 ·exact hf
 ·cases hf
theorem oB (ses base:Int) (qa:Option Addr) (qn qc:Nat) (w:World) (hn:qn≤1000) (hc:qn≤qc) :
 Calls Tryz.prog 117 #[.agg #[.int .i64 ses,.int .i64 base,.slice qa qn qc]] w fun e w'=>e=.returned (.slice qa (min qn 4) qc)∧Gq w w':=by
 by_cases h4:qn≤4
 ·have hm:min qn 4=qn:=by omega
  rw[hm];have h4i:(qn:Int)≤4:=by omega
  go_enter Tryz.func117,Tryz.ntmps117;go_wp2_with fail;go_ret;exact⟨rfl,af _ _⟩
 ·have hm:min qn 4=4:=by omega
  rw[hm];have h4i:¬(qn:Int)≤4:=by omega
  have h4c:(4:Int)≤qc:=by omega
  go_enter Tryz.func117,Tryz.ntmps117;go_wp2_with fail;go_ret;exact⟨rfl,af _ _⟩
def Mx.fb (base want:Int) (qn:Nat):Nat:=if want≤base∨((min qn 4:Nat):Int)<want-base then 0 else (want-base).toNat
theorem qD (ses base want:Int) (qa:Option Addr) (qn qc:Nat) (w:World) (hn:qn≤1000) (hc:qn≤qc) (h0:0≤base) (h1:base≤2147483647) (h2:0≤want) (h3:want≤2147483647) :
 Calls Tryz.prog 123 #[.agg #[.int .i64 ses,.int .i64 base,.slice qa qn qc],.int .i64 want] w fun e w'=>e=.returned (.int .i64 (Mx.fb base want qn:Int))∧Gq w w':=by
 obtain⟨W0,hW0⟩:∃ W0:World,Hid (W0=w.alloc (.cells #[.int .i64 ses,.int .i64 base,.slice qa qn qc] 105)):=⟨_,rfl⟩
 have X0:=bxA hW0;have D0:=beA hW0;obtain⟨x0,x1,x2⟩:=X0.o.three;by_cases hw:want≤base
 ·have dw:decide (want≤base)=true:=by simpa using hw
  have HF:=aa (show Mx.fb base want qn=0 by unfold Mx.fb;rw[if_pos (.inl hw)]);rw[HF.o];clear hw;go_enter Tryz.func123,Tryz.ntmps123;go_wp2_with fail;rw[←hW0.o];go_quiet (fail)
  go_wp2_with fail;go_ret;exact⟨rfl,below_drewN D0.o _⟩
 ·have dw:decide (want≤base)=false:=by simpa using hw
  obtain⟨M,hM⟩:∃ M:Nat,Hid (M=min qn 4):=⟨_,rfl⟩
  have hwd:IntKind.i64.wrap (want-base)=want-base:=by rw[IntWalk.i64_left,IntWalk.wrap64_in _ (by omega)]
  have HWIN:=aa (show ∀ W:World,Calls Tryz.prog 117 #[.agg #[.int .i64 ses,.int .i64 base,.slice qa qn qc]] W fun e w'=>e=.returned (.slice qa M qc)∧Gq W w' from fun W=>by rw[hM.o];exact oB ses base qa qn qc W hn hc);go_enter Tryz.func123,Tryz.ntmps123;go_wp2_with fail;rw[←hW0.o];go_region_held3 (fun w'=>w'.cell? ⟨w.heap.size,0,none⟩=some (.int .i64 ses)∧w'.cell? ⟨w.heap.size,1,none⟩=some (.int .i64 base)∧w'.cell? ⟨w.heap.size,2,none⟩=some (.slice qa qn qc))
   (first
     | with_reducible exact ⟨x0, x1, x2⟩
     |(simp only[an];with_reducible exact⟨x0,x1,x2⟩)
     | with_reducible exact ⟨y0, y1, y2⟩)
   (first
     |(go_at_call 117;(with_reducible refine(HWIN.o W0.drew).mono ?_);rintro e w2 ⟨rfl,hb2⟩;have D2:=aa (eP hb2);obtain⟨y0,y1,y2⟩:=(X0.o.later D2.o X0.o.lt).three))
  all_goals
   have B2:=aa (D0.o.trans (D2.o.mono D0.o.size));by_cases hg:(M:Int)<want-base
   ·have dg:decide ((M:Int)<want-base)=true:=by simpa using hg
    have HF:=aa (show Mx.fb base want qn=0 by unfold Mx.fb;rw[if_pos (.inr (by rw[←hM.o];exact hg))]);go_wp2_with fail;go_ret;exact⟨by rw[HF.o]<;>rfl,B2.o⟩
   ·have dg:decide ((M:Int)<want-base)=false:=by simpa using hg
    have HF:=aa (show((Mx.fb base want qn:Nat):Int)=want-base by unfold Mx.fb;rw[if_neg (by rw[←hM.o];omega)];omega);go_wp2_with fail;go_ret;exact⟨by rw[HF.o]<;>rfl,B2.o⟩
section
variable {l:List Int} {ses:Int}
namespace Mx
def Ack (l:List Int) (ses x:Int):Prop:=aE l 0 [ses,x] 0 []
theorem Ei {kd:Int} {al:List Int} {nb:Nat} {bs:List Int} (h:aE l kd al nb bs) (h1:kd=0) (h2:nb=0) (h3:al.length=2) (h4:al.getD 0 0=ses):Ack l ses (al.getD 1 0):=by
 obtain⟨x,y,rfl⟩:∃ x y,al=[x,y]:=by
  match al,h3 with
  | [x, y], _ => exact ⟨x, y, rfl⟩
 subst h1 h2;obtain rfl:bs=[]:=List.eq_nil_of_length_eq_zero (by have:=h.2.1;omega);have h5:x=ses:=h4;subst h5;exact h
theorem xC {x:Int} (h:Ack l ses x):0≤x∧x≤2147483647:=by
 have h1:=h.1;unfold may at h1;split at h1
 ·omega
 ·split at h1
  ·omega
  ·split at h1
   ·omega
   ·next h2 =>
    simp[bj] at h2;omega
end Mx
theorem sQ (ses:Int) (a:Option Addr) (len cap:Nat) (l:List Int) (w:World) (hl:Bytes w a len l) (hlen:len≤2000) (hcap:len≤cap) :
 Calls Tryz.prog 122 #[.int .i64 ses,.slice a len cap] w fun e w'=>∃ (x:Int) (ok:Bool),e=.returned (.tuple #[.int .i64 x,.bool ok])∧Hid ((ok=true∧Mx.Ack l ses x)∨(ok=false∧x=0∧∀ y,¬Mx.Ack l ses y))∧Hid (Gq w w'):=by
 have HL:=aa hl;clear hl;go_enter Tryz.func122,Tryz.ntmps122;go_wp2_with fail;refine(xA a len cap l w HL.o hlen hcap).mono ?_;rintro e w1 (⟨kd,al,nb,bs,a1,c1,a2,c2,rfl,hF,hI,hK,hB⟩|⟨rfl,hno,hB⟩)
 ·have HF:=aa hF
  have HI:=aa hI;have B1:=aa hB;clear hB;have hnb:nb≤maxLen:=hK.2.1;rw[aC] at hnb;have hnl:al.length≤maxLen:=hI.2.1;rw[aC] at hnl;clear hF hI hK;have HNO:=aa (show ∀ y,Mx.Ack l ses y→kd=0∧al=[ses,y]∧nb=0 from fun y hy=>by
   obtain⟨h1,h2,h3,_⟩:=Mx.aE.one HF.o hy;exact⟨h1,h2,h3⟩)
  by_cases h1:kd=0
  ·by_cases h2:(0:Int)<nb
   ·have d2:decide ((0:Int)<nb)=true:=by simpa using h2
    have HN:=aa (show ∀ y,¬Mx.Ack l ses y from fun y hy=>by have:=(HNO.o y hy).2.2;omega);subst h1;go_wp2_with fail;exact bodyPost_ret (v:=.tuple #[.int .i64 0,.bool false]) (by simp[results,Tryz.results122,go_sem]) rfl ⟨0,false,rfl,.inr ⟨rfl,rfl,HN.o⟩,B1.o.alloc B1.o.size _⟩
   ·have d2:decide ((0:Int)<nb)=false:=by simpa using h2
    by_cases h3:al.length=2
    ·obtain⟨b,off,x0,hab,hblt,hx0,e0⟩:=HI.o.at_ 0 (by omega)
     obtain⟨b',off',x1,hab',_,hx1,e1⟩:=HI.o.at_ 1 (by omega);rw[hab] at hab';cases hab'
     subst hab;rw[Nat.add_zero] at e0;have HA:=aa (show x0=ses→Mx.Ack l ses x1 from fun h=>by
      have h5:=Mx.Ei (ses:=ses) HF.o h1 (by omega) h3 (hx0.trans h);rw[hx1] at h5;exact h5)
     have HN:=aa (show x0≠ses→∀ y,¬Mx.Ack l ses y from fun hne y hy=>by
      have h5:=(HNO.o y hy).2.1;rw[h5] at hx0;exact hne hx0.symm)
     have H3:=aa h3;clear hx0 hx1 h3;subst h1;rw[H3.o];by_cases h4:x0=ses
     ·have d4:(x0 != ses)=false:=by simpa using h4
      go_wp2_with fail;exact bodyPost_ret (v:=.tuple #[.int .i64 x1,.bool true]) (by simp[results,Tryz.results122,go_sem]) rfl ⟨x1,true,rfl,.inl ⟨rfl,HA.o h4⟩,B1.o.alloc B1.o.size _⟩
     ·have d4:(x0 != ses)=true:=by simpa using h4
      go_wp2_with fail;exact bodyPost_ret (v:=.tuple #[.int .i64 0,.bool false]) (by simp[results,Tryz.results122,go_sem]) rfl ⟨0,false,rfl,.inr ⟨rfl,rfl,HN.o h4⟩,B1.o.alloc B1.o.size _⟩
    ·have HN:=aa (show ∀ y,¬Mx.Ack l ses y from fun y hy=>h3 (by rw[(HNO.o y hy).2.1];rfl))
     have d3:((al.length:Int) != 2)=true:=by simpa using (show ¬((al.length:Int)=2) by omega)
     clear h3;subst h1;go_wp2_with fail;exact bodyPost_ret (v:=.tuple #[.int .i64 0,.bool false]) (by simp[results,Tryz.results122,go_sem]) rfl ⟨0,false,rfl,.inr ⟨rfl,rfl,HN.o⟩,B1.o.alloc B1.o.size _⟩
  ·have HN:=aa (show ∀ y,¬Mx.Ack l ses y from fun y hy=>h1 (HNO.o y hy).1)
   have d1:(kd != 0)=true:=by simpa using h1
   go_wp2_with fail;exact bodyPost_ret (v:=.tuple #[.int .i64 0,.bool false]) (by simp[results,Tryz.results122,go_sem]) rfl ⟨0,false,rfl,.inr ⟨rfl,rfl,HN.o⟩,B1.o.alloc B1.o.size _⟩
 ·have HN:=aa (show ∀ y,¬Mx.Ack l ses y from fun y hy=>hno _ _ _ _ hy)
  have B1:=aa hB;clear hB;clear hno;go_wp2_with fail;exact bodyPost_ret (v:=.tuple #[.int .i64 0,.bool false]) (by simp[results,Tryz.results122,go_sem]) rfl ⟨0,false,rfl,.inr ⟨rfl,rfl,HN.o⟩,B1.o.alloc B1.o.size _⟩
end
theorem FLA.low {B B':Nat} {w:World} {a:Option Addr} {k:Nat} {fs:List Fr} (h:FLA B w a k fs) (hB:B'≤B):FLA B' w a k fs:=by
 obtain⟨h1,h2,h4⟩:=h;refine⟨h1,h2,fun hp=>?_⟩;obtain⟨b,off,ha,hb,hlt,hc⟩:=h4 hp;refine⟨b,off,ha,by omega,hlt,fun i f hf=>?_⟩;obtain⟨a1,n1,c1,a2,c2,e1,e2,e3,e4,e5,e6,e7,e8,e9⟩:=hc i f hf;exact⟨a1,n1,c1,a2,c2,e1,e2,e3,e4,e5,e6,e7,fun h p hp=>Gn hB (e8 h p hp),fun h p hp=>Gn hB (e9 h p hp)⟩
def SdA (B:Nat) (w:World) (v:Value) (s:Sd):Prop:=∃ (qa:Option Addr) (qn qc:Nat),v=.agg #[.int .i64 s.ses,.int .i64 s.base,.slice qa qn qc]∧FLA B w qa qn s.q∧qn≤qc
theorem SdA.zero (B:Nat) (w:World):SdA B w (.agg #[.int .i64 0,.int .i64 0,.slice none 0 0]) ⟨0,0,[]⟩:=⟨none,0,0,rfl,FLA.nil B w,Gi _⟩
theorem FL.drop {w:World} {b off:Nat} {k:Nat} {fs:List Fr} (h:FL w (some ⟨b,off,none⟩) k fs) (j:Nat) (hj:j≤k):FL w (some ⟨b,off+j*3,none⟩) (k-j) (fs.drop j):=by
 obtain⟨h1,h2,h4⟩:=h;refine⟨by rw[List.length_drop,h1],by omega,fun hp=>?_⟩;obtain⟨b',off',ha,hlt,hc⟩:=h4 (by omega);simp only[Option.some.injEq,Addr.mk.injEq,and_true] at ha;obtain⟨rfl,rfl⟩:=ha;refine⟨b,off+j*3,rfl,hlt,fun i f hf=>?_⟩;rw[List.getElem?_drop] at hf;obtain⟨a1,n1,c1,a2,c2,e⟩:=hc (j+i) f hf;rw[show off+(j+i)*3=off+j*3+i*3 by rw[Nat.add_mul];omega] at e;exact⟨a1,n1,c1,a2,c2,e⟩
namespace Mx
def iU (ses base:Int) (qn:Nat) (l:List Int) (g:Nat):Prop:=(∃ x,Ack l ses x∧g=fb base x qn)∨((∀ x,¬Ack l ses x)∧g=0)
theorem AV {ses base:Int} {qn:Nat} {l:List Int} {g g':Nat} (h:iU ses base qn l g) (h':iU ses base qn l g'):g=g':=by
 rcases h with ⟨x,h1,rfl⟩|⟨h1,rfl⟩
 ·rcases h' with ⟨y,h2,rfl⟩|⟨h2,rfl⟩
  ·have h3:=(aE.one h1 h2).2.1
   simp at h3;rw[h3]
  ·exact absurd h1 (h2 x)
 ·rcases h' with ⟨y,h2,rfl⟩|⟨h2,rfl⟩
  ·exact absurd h2 (h1 y)
  ·rfl
theorem CP (base x:Int) (qn:Nat):fb base x qn≤min qn 4:=by
 unfold fb;split
 ·omega
 ·omega
theorem jv {f:Fr} (h:bZ f=0):f.al.length≤1000∧f.nb≤1000:=by
 obtain⟨h1,h2⟩:=uQ h;unfold may at h1;split at h1
 ·omega
 ·split at h1
  ·omega
  ·exact⟨by omega,by omega⟩
end Mx
theorem we (ses base:Int) (qa:Option Addr) (qn qc:Nat) (fs:List Fr) (a:Option Addr) (len cap:Nat) (l:List Int) (w:World) (hq:FL w qa qn fs) (hqc:qn≤qc) (hl:Bytes w a len l) (hlen:len≤2000) (hcap:len≤cap) :
 Calls Tryz.prog 90 #[.agg #[.int .i64 ses,.int .i64 base,.slice qa qn qc],.slice a len cap] w fun e w'=>∃ v,e=.returned (.tuple #[v,bt (Mx.bD ⟨ses,base,fs⟩)])∧Hid ((Mx.bD ⟨ses,base,fs⟩≠0∧SdA w.heap.size w' v ⟨0,0,[]⟩)∨(Mx.bD ⟨ses,base,fs⟩=0∧∃ g,Mx.iU ses base qn l g∧SdA w.heap.size w' v ⟨ses,base+g,fs.drop g⟩))∧Hid (Gq w w'):=by
 obtain⟨W0,hW0⟩:∃ W0:World,Hid (W0=(w.alloc (.cells #[.int .i64 ses,.int .i64 base,.slice qa qn qc] 105)).alloc (.cells #[.int .i64 0,.int .i64 0,.slice none 0 0] 105)):=⟨_,rfl⟩
 have X0:=aa (show Bx W0 w.heap.size #[.int .i64 ses,.int .i64 base,.slice qa qn qc] 105 by rw[hW0.o];exact(Bx.new w _ _).alloc _);have R0:=aa (show Bx W0 (w.heap.size+1) #[.int .i64 0,.int .i64 0,.slice none 0 0] 105 by
  rw[hW0.o];have h:=Bx.new (w.alloc (.cells #[.int .i64 ses,.int .i64 base,.slice qa qn qc] 105)) #[.int .i64 0,.int .i64 0,.slice none 0 0] 105;rw[World.size_alloc] at h;exact h)
 have D0:=aa (show Gq w W0 by rw[hW0.o];exact(af _ _).alloc (by simp) _);have HQ:=aa (hq.later D0.o);have HL:=aa (hl.later D0.o);have HN:=aa hq.1;clear hq hl;obtain⟨x0,x1,x2⟩:=X0.o.three;go_enter Tryz.func90,Tryz.ntmps90;go_wp2_with fail;rw[←hW0.o];refine(ky ses base qa qn qc fs W0 HQ.o).mono ?_;rintro e w1 ⟨rfl,D1⟩;have X1:=aa (X0.o.later D1 X0.o.lt);have R1:=aa (R0.o.later D1 R0.o.lt);have B1:=aa (D0.o.trans (D1.mono D0.o.size));clear x0 x1 x2;by_cases hm:Mx.bD ⟨ses,base,fs⟩=0
 ·have HM:=aa hm
  have HOK:=aa (Mx.mU hm);have hq64:qn≤64:=by have h1:fs.length≤64:=HOK.o.2.1;have h2:=HN.o;omega
  have hb0:0≤base:=HOK.o.1.2.2.1;have hb1:base≤2147483647:=HOK.o.1.2.2.2;have HPS:=aa (show ∀ f∈fs,f.al.length≤1000∧f.nb≤1000 from fun f hf=>Mx.jv (HOK.o.2.2 f hf));have HE:=aa (show bt (Mx.bD ⟨ses,base,fs⟩)=.nilIface by rw[HM.o,aG]);rw[HE.o];clear hm;obtain⟨x0,x1,x2⟩:=X1.o.three;have HL1:=aa (HL.o.later D1);go_wp2_with fail;refine(sQ ses a len cap l w1 HL1.o hlen hcap).mono ?_;rintro e w2 ⟨x,ok,rfl,HA,D2⟩;have X2:=aa (X1.o.later D2.o X1.o.lt);have R2:=aa (R1.o.later D2.o R1.o.lt);have B2:=aa (B1.o.trans (D2.o.mono B1.o.size));clear x0 x1 x2;cases ok with
  | false =>
   have HG:=aa (show Mx.iU ses base qn l 0 by
    rcases HA.o with ⟨h,_⟩|⟨_,_,h⟩
    ·cases h
    ·exact .inr ⟨h,rfl⟩)
   clear HA;obtain⟨x0,x1,x2⟩:=X2.o.three;have X3:=X2;have R3:=R2;have B3:=B2;have Q3:=aa ((HQ.o.later D1).later D2.o);obtain⟨w3,hw3⟩:∃ w3:World,Hid (w3=w2):=⟨_,rfl⟩
   rw[←hw3.o] at X3 R3 B3 Q3 x0 x1 x2 ⊢;have QD:=Q3;have hwb:IntKind.i64.wrap base=base:=by rw[IntWalk.i64_left,IntWalk.wrap64_in _ (by omega)]
   have hqd:qn≤1000:=by omega
   have HPD:=HPS;have hx3:w.heap.size<w3.heap.size:=X3.o.lt;have hr3:w.heap.size+1<w3.heap.size:=R3.o.lt;have hrx:¬w.heap.size+1=w.heap.size:=by omega
   go_upto_region 8 with fail
   go_region_held3 (fun w'=>w'.cell? ⟨w.heap.size,0,none⟩=some (.int .i64 ses)∧w'.cell? ⟨w.heap.size,1,none⟩=some (.int .i64 base)∧w'.cell? ⟨w.heap.size,2,none⟩=some (.slice qa qn qc))
    (first
      | with_reducible exact ⟨x0, x1, x2⟩
      |(simp only[an];with_reducible exact⟨x0,x1,x2⟩)
      | with_reducible exact ⟨y0, y1, y2⟩
      |(simp only[aw hrx];with_reducible exact⟨y0,y1,y2⟩))
    (first
      |(go_at_call 124;refine(eQ qa qn qc fs w3.drew (QD.o.later (Below.refl _ _).drew) hqd HPD.o).mono ?_;rintro e w4 ⟨v4,rfl,O4,E4⟩;have D4:=aa (eP E4.o);have FA:=aa (O4.o.fla (Gi _));have FB:=FA.o;obtain⟨za,zc,hv,hzc,hfa⟩:=FB;obtain⟨zn,hzn⟩:∃ zn:Nat,Hid (zn=fs.length):=⟨_,rfl⟩;rw[←hzn.o] at hv hzc hfa;subst hv;have ZA:=aa (show FLA w3.heap.size w4 za zn fs from hfa);have ZC:=aa hzc;clear hfa hzc;obtain⟨y0,y1,y2⟩:=(X3.o.later D4.o hx3).three;have R4:=aa (R3.o.later D4.o hr3);obtain⟨r0,r1,r2⟩:=R4.o.three;have rz:=R4.o.frozen))
   all_goals
    have GF:=aa (bp (aq w4 (some (w.heap.size+1))) (.int .i64 ses) (.int .i64 base) (.slice za zn zc));have ZF:=aa ((ZA.o.grown GF.o hr3).low (show w.heap.size≤w3.heap.size by omega));have BF:=aa (show Gq w (ca w4 (w.heap.size+1) (.int .i64 ses) (.int .i64 base) (.slice za zn zc)) from aF (B3.o.trans (D4.o.mono B3.o.size)) (by omega) _ _ _);go_wp2_with fail;obtain⟨t0,t1,t2⟩:=(R4.o.aH (.int .i64 ses) (.int .i64 base) (.slice za zn zc)).three;exact bodyPost_ret (v:=.tuple #[.agg #[.int .i64 ses,.int .i64 base,.slice za zn zc],.nilIface]) (by simp[results,Tryz.results90,go_sem,t0,t1,t2]) rfl ⟨_,by rw[HE.o],.inr ⟨HM.o,0,HG.o,by rw[show base+((0:Nat):Int)=base by omega,List.drop_zero];exact⟨za,_,zc,rfl,ZF.o,ZC.o⟩⟩,BF⟩
  | true =>
   have HAK:=aa (show Mx.Ack l ses x by
    rcases HA.o with ⟨_,h⟩|⟨h,_⟩
    ·exact h
    ·cases h)
   have hx:=Mx.xC HAK.o;clear HA;obtain⟨x0,x1,x2⟩:=X2.o.three;go_wp2_with fail;refine(qD ses base x qa qn qc w2 (by omega) hqc hb0 hb1 hx.1 hx.2).mono ?_;rintro e w3 ⟨rfl,D3⟩;have X3:=aa (X2.o.later D3 X2.o.lt);have R3:=aa (R2.o.later D3 R2.o.lt);have B3:=aa (B2.o.trans (D3.mono B2.o.size));have Q3:=aa (((HQ.o.later D1).later D2.o).later D3);clear x0 x1 x2;obtain⟨x0,x1,x2⟩:=X3.o.three;have HCL:=aa (Mx.CP base x qn);have HG0:=aa (show Mx.iU ses base qn l (Mx.fb base x qn) from .inl ⟨x,HAK.o,rfl⟩);obtain⟨g,hg⟩:∃ g:Nat,Hid (g=Mx.fb base x qn):=⟨_,rfl⟩
   rw[←hg.o] at HCL HG0 ⊢;have HG:=HG0;have hgq:g≤qn:=by have:=HCL.o;omega
   have hg4:g≤4:=by have:=HCL.o;omega
   by_cases hgz:g=0
   ·subst hgz
    have QD:=Q3;have hwb:IntKind.i64.wrap base=base:=by rw[IntWalk.i64_left,IntWalk.wrap64_in _ (by omega)]
    have hqd:qn≤1000:=by omega
    have HPD:=HPS;have hx3:w.heap.size<w3.heap.size:=X3.o.lt;have hr3:w.heap.size+1<w3.heap.size:=R3.o.lt;have hrx:¬w.heap.size+1=w.heap.size:=by omega
    go_upto_region 8 with fail
    go_region_held3 (fun w'=>w'.cell? ⟨w.heap.size,0,none⟩=some (.int .i64 ses)∧w'.cell? ⟨w.heap.size,1,none⟩=some (.int .i64 base)∧w'.cell? ⟨w.heap.size,2,none⟩=some (.slice qa qn qc))
     (first
       | with_reducible exact ⟨x0, x1, x2⟩
       |(simp only[an];with_reducible exact⟨x0,x1,x2⟩)
       | with_reducible exact ⟨y0, y1, y2⟩
       |(simp only[aw hrx];with_reducible exact⟨y0,y1,y2⟩))
     (first
       |(go_at_call 124;refine(eQ qa qn qc fs w3.drew (QD.o.later (Below.refl _ _).drew) hqd HPD.o).mono ?_;rintro e w4 ⟨v4,rfl,O4,E4⟩;have D4:=aa (eP E4.o);have FA:=aa (O4.o.fla (Gi _));have FB:=FA.o;obtain⟨za,zc,hv,hzc,hfa⟩:=FB;obtain⟨zn,hzn⟩:∃ zn:Nat,Hid (zn=fs.length):=⟨_,rfl⟩;rw[←hzn.o] at hv hzc hfa;subst hv;have ZA:=aa (show FLA w3.heap.size w4 za zn fs from hfa);have ZC:=aa hzc;clear hfa hzc;obtain⟨y0,y1,y2⟩:=(X3.o.later D4.o hx3).three;have R4:=aa (R3.o.later D4.o hr3);obtain⟨r0,r1,r2⟩:=R4.o.three;have rz:=R4.o.frozen))
    all_goals
     have GF:=aa (bp (aq w4 (some (w.heap.size+1))) (.int .i64 ses) (.int .i64 base) (.slice za zn zc));have ZF:=aa ((ZA.o.grown GF.o hr3).low (show w.heap.size≤w3.heap.size by omega));have BF:=aa (show Gq w (ca w4 (w.heap.size+1) (.int .i64 ses) (.int .i64 base) (.slice za zn zc)) from aF (B3.o.trans (D4.o.mono B3.o.size)) (by omega) _ _ _);go_wp2_with fail;obtain⟨t0,t1,t2⟩:=(R4.o.aH (.int .i64 ses) (.int .i64 base) (.slice za zn zc)).three;exact bodyPost_ret (v:=.tuple #[.agg #[.int .i64 ses,.int .i64 base,.slice za zn zc],.nilIface]) (by simp[results,Tryz.results90,go_sem,t0,t1,t2]) rfl ⟨_,by rw[HE.o],.inr ⟨HM.o,0,HG.o,by rw[show base+((0:Nat):Int)=base by omega,List.drop_zero];exact⟨za,_,zc,rfl,ZF.o,ZC.o⟩⟩,BF⟩
   ·obtain⟨b,off,hab,_⟩:=Q3.o.2.2 (by omega)
    subst hab;have hwg:IntKind.i64.wrap (base+(g:Int))=base+(g:Int):=by rw[IntWalk.i64_left,IntWalk.wrap64_in _ (by omega)]
    have hgi:(g:Int)≤qn:=by omega
    have hgc:(g:Int)≤qc:=by omega
    have hg0:(0:Int)≤(g:Int):=by omega
    by_cases hcg:qc=g
    ·have hqn:qn=g:=by omega
     have HDR:=aa (show fs.drop g=[] from List.drop_of_length_le (by rw[HN.o];omega));have QD:=aa (show FL w3 (some ⟨b,off,none⟩) 0 (fs.drop g) by rw[HDR.o];exact⟨rfl,by rw[aC];omega,fun h=>absurd h (by omega)⟩);have hqd:0≤1000:=by omega
     have HPD:=aa (show ∀ f∈fs.drop g,f.al.length≤1000∧f.nb≤1000 from fun f hf=>HPS.o f (List.mem_of_mem_drop hf));subst hcg;subst hqn;have hx3:w.heap.size<w3.heap.size:=X3.o.lt;have hr3:w.heap.size+1<w3.heap.size:=R3.o.lt;have hrx:¬w.heap.size+1=w.heap.size:=by omega
     go_upto_region 8 with fail
     go_region_held3 (fun w'=>w'.cell? ⟨w.heap.size,0,none⟩=some (.int .i64 ses)∧w'.cell? ⟨w.heap.size,1,none⟩=some (.int .i64 base)∧w'.cell? ⟨w.heap.size,2,none⟩=some (.slice (some ⟨b,off,none⟩) qn qn))
      (first
        | with_reducible exact ⟨x0, x1, x2⟩
        |(simp only[an];with_reducible exact⟨x0,x1,x2⟩)
        | with_reducible exact ⟨y0, y1, y2⟩
        |(simp only[aw hrx];with_reducible exact⟨y0,y1,y2⟩))
      (first
        |(go_at_call 124;refine(eQ (some ⟨b,off,none⟩) 0 0 (fs.drop qn) w3.drew (QD.o.later (Below.refl _ _).drew) hqd HPD.o).mono ?_;rintro e w4 ⟨v4,rfl,O4,E4⟩;have D4:=aa (eP E4.o);have FA:=aa (O4.o.fla (Gi _));have FB:=FA.o;obtain⟨za,zc,hv,hzc,hfa⟩:=FB;obtain⟨zn,hzn⟩:∃ zn:Nat,Hid (zn=(fs.drop qn).length):=⟨_,rfl⟩;rw[←hzn.o] at hv hzc hfa;subst hv;have ZA:=aa (show FLA w3.heap.size w4 za zn (fs.drop qn) from hfa);have ZC:=aa hzc;clear hfa hzc;obtain⟨y0,y1,y2⟩:=(X3.o.later D4.o hx3).three;have R4:=aa (R3.o.later D4.o hr3);obtain⟨r0,r1,r2⟩:=R4.o.three;have rz:=R4.o.frozen))
     all_goals
      have GF:=aa (bp (aq w4 (some (w.heap.size+1))) (.int .i64 ses) (.int .i64 (base+(qn:Int))) (.slice za zn zc));have ZF:=aa ((ZA.o.grown GF.o hr3).low (show w.heap.size≤w3.heap.size by omega));have BF:=aa (show Gq w (ca w4 (w.heap.size+1) (.int .i64 ses) (.int .i64 (base+(qn:Int))) (.slice za zn zc)) from aF (B3.o.trans (D4.o.mono B3.o.size)) (by omega) _ _ _);go_wp2_with fail;obtain⟨t0,t1,t2⟩:=(R4.o.aH (.int .i64 ses) (.int .i64 (base+(qn:Int))) (.slice za zn zc)).three;exact bodyPost_ret (v:=.tuple #[.agg #[.int .i64 ses,.int .i64 (base+(qn:Int)),.slice za zn zc],.nilIface]) (by simp[results,Tryz.results90,go_sem,t0,t1,t2]) rfl ⟨_,by rw[HE.o],.inr ⟨HM.o,qn,HG.o,⟨za,_,zc,rfl,ZF.o,ZC.o⟩⟩,BF⟩
    ·have QD:=aa (Q3.o.drop g hgq)
     have hqd:qn-g≤1000:=by omega
     have HPD:=aa (show ∀ f∈fs.drop g,f.al.length≤1000∧f.nb≤1000 from fun f hf=>HPS.o f (List.mem_of_mem_drop hf));have hx3:w.heap.size<w3.heap.size:=X3.o.lt;have hr3:w.heap.size+1<w3.heap.size:=R3.o.lt;have hrx:¬w.heap.size+1=w.heap.size:=by omega
     go_upto_region 8 with fail
     go_region_held3 (fun w'=>w'.cell? ⟨w.heap.size,0,none⟩=some (.int .i64 ses)∧w'.cell? ⟨w.heap.size,1,none⟩=some (.int .i64 base)∧w'.cell? ⟨w.heap.size,2,none⟩=some (.slice (some ⟨b,off,none⟩) qn qc))
      (first
        | with_reducible exact ⟨x0, x1, x2⟩
        |(simp only[an];with_reducible exact⟨x0,x1,x2⟩)
        | with_reducible exact ⟨y0, y1, y2⟩
        |(simp only[aw hrx];with_reducible exact⟨y0,y1,y2⟩))
      (first
        |(go_at_call 124;refine(eQ (some ⟨b,off+g*3,none⟩) (qn-g) (qc-g) (fs.drop g) w3.drew (QD.o.later (Below.refl _ _).drew) hqd HPD.o).mono ?_;rintro e w4 ⟨v4,rfl,O4,E4⟩;have D4:=aa (eP E4.o);have FA:=aa (O4.o.fla (Gi _));have FB:=FA.o;obtain⟨za,zc,hv,hzc,hfa⟩:=FB;obtain⟨zn,hzn⟩:∃ zn:Nat,Hid (zn=(fs.drop g).length):=⟨_,rfl⟩;rw[←hzn.o] at hv hzc hfa;subst hv;have ZA:=aa (show FLA w3.heap.size w4 za zn (fs.drop g) from hfa);have ZC:=aa hzc;clear hfa hzc;obtain⟨y0,y1,y2⟩:=(X3.o.later D4.o hx3).three;have R4:=aa (R3.o.later D4.o hr3);obtain⟨r0,r1,r2⟩:=R4.o.three;have rz:=R4.o.frozen))
     all_goals
      have GF:=aa (bp (aq w4 (some (w.heap.size+1))) (.int .i64 ses) (.int .i64 (base+(g:Int))) (.slice za zn zc));have ZF:=aa ((ZA.o.grown GF.o hr3).low (show w.heap.size≤w3.heap.size by omega));have BF:=aa (show Gq w (ca w4 (w.heap.size+1) (.int .i64 ses) (.int .i64 (base+(g:Int))) (.slice za zn zc)) from aF (B3.o.trans (D4.o.mono B3.o.size)) (by omega) _ _ _);go_wp2_with fail;obtain⟨t0,t1,t2⟩:=(R4.o.aH (.int .i64 ses) (.int .i64 (base+(g:Int))) (.slice za zn zc)).three;exact bodyPost_ret (v:=.tuple #[.agg #[.int .i64 ses,.int .i64 (base+(g:Int)),.slice za zn zc],.nilIface]) (by simp[results,Tryz.results90,go_sem,t0,t1,t2]) rfl ⟨_,by rw[HE.o],.inr ⟨HM.o,g,HG.o,⟨za,_,zc,rfl,ZF.o,ZC.o⟩⟩,BF⟩
 ·have HM:=aa hm
  have HE:=aa (aZ hm);rw[HE.o];clear hm;obtain⟨r0,r1,r2⟩:=R1.o.three;have rz:=R1.o.frozen;go_wp2_with fail;obtain⟨t0,t1,t2⟩:=(R1.o.aH (.int .i64 0) (.int .i64 0) (.slice none 0 0)).three;exact bodyPost_ret (v:=.tuple #[.agg #[.int .i64 0,.int .i64 0,.slice none 0 0],.iface 28 (.int .i64 (Mx.bD ⟨ses,base,fs⟩))]) (by simp[results,Tryz.results90,go_sem,t0,t1,t2]) rfl ⟨_,by rw[HE.o],.inl ⟨HM.o,SdA.zero _ _⟩,aF B1.o (by omega) _ _ _⟩
theorem bV.low {B B':Nat} {w:World} {base:Nat} {v:Value} {fs:List Fr} (h:bV B w base v fs) (hB:B'≤B):bV B' w base v fs:=by
 obtain⟨vs,h1,h2⟩:=h;refine⟨vs,h1,fun i f hf=>?_⟩;obtain⟨a1,n1,c1,a2,c2,e1,e2,e3,e4,e5,e6,e7,e8,e9⟩:=h2 i f hf;exact⟨a1,n1,c1,a2,c2,e1,e2,e3,e4,e5,e6,e7,fun h0 p hp=>⟨(e8 h0 p hp).1,Gn hB (e8 h0 p hp).2⟩,fun h0 p hp=>⟨(e9 h0 p hp).1,Gn hB (e9 h0 p hp).2⟩⟩
theorem bV.mono {B:Nat} {w:World} {base base':Nat} {v:Value} {fs:List Fr} (h:bV B w base v fs) (hb:base'≤base):bV B w base' v fs:=by
 obtain⟨vs,h1,h2⟩:=h;exact⟨vs,World.ownsRow.mono h1 hb,h2⟩
namespace Mx
def fX (s:Sd) (f:Fr):Int:=if bD s=0 then (if bZ f=0 then (if s.q.length=64∨2147483647≤s.base+s.q.length then 2 else 0) else bZ f) else bD s
theorem Fb {s:Sd} {f:Fr} (h:bD s≠0):fX s f=bD s:=by unfold fX;rw[if_neg h]
theorem Fa {s:Sd} {f:Fr} (h:bD s=0) (h2:bZ f≠0):fX s f=bZ f:=by unfold fX;rw[if_pos h,if_neg h2]
theorem yZ {s:Sd} {f:Fr} (h:bD s=0) (h2:bZ f=0) (h3:s.q.length=64∨2147483647≤s.base+s.q.length):fX s f=2:=by unfold fX;rw[if_pos h,if_pos h2,if_pos h3]
theorem yY {s:Sd} {f:Fr} (h:bD s=0) (h2:bZ f=0) (h3:¬(s.q.length=64∨2147483647≤s.base+s.q.length)):fX s f=0:=by unfold fX;rw[if_pos h,if_pos h2,if_neg h3]
end Mx
theorem wi (ses base:Int) (qa:Option Addr) (qn qc:Nat) (fs:List Fr) (kd:Int) (a1 a2:Option Addr) (n1 c1 n2 c2:Nat) (nm bs:List Int) (w:World) (hq:FL w qa qn fs) (hi:ay w a1 n1 nm) (hk:aS w a2 n2 bs) :
 Calls Tryz.prog 115 #[.agg #[.int .i64 ses,.int .i64 base,.slice qa qn qc],.agg #[.int .i64 kd,.slice a1 n1 c1,.slice a2 n2 c2]] w fun e w'=>∃ v,e=.returned (.tuple #[v,bt (Mx.fX ⟨ses,base,fs⟩ ⟨kd,nm,n2,bs⟩)])∧Hid ((Mx.fX ⟨ses,base,fs⟩ ⟨kd,nm,n2,bs⟩≠0∧SdA w.heap.size w' v ⟨0,0,[]⟩)∨(Mx.fX ⟨ses,base,fs⟩ ⟨kd,nm,n2,bs⟩=0∧SdA w.heap.size w' v ⟨ses,base,fs++[⟨kd,nm,n2,bs⟩]⟩))∧Hid (Gq w w'):=by
 obtain⟨W0,hW0⟩:∃ W0:World,Hid (W0=((w.alloc (.cells #[.int .i64 ses,.int .i64 base,.slice qa qn qc] 105)).alloc (.cells #[.int .i64 kd,.slice a1 n1 c1,.slice a2 n2 c2] 173)).alloc (.cells #[.int .i64 0,.int .i64 0,.slice none 0 0] 105)):=⟨_,rfl⟩
 have X0:=aa (show Bx W0 w.heap.size #[.int .i64 ses,.int .i64 base,.slice qa qn qc] 105 by rw[hW0.o];exact((Bx.new w _ _).alloc _).alloc _);have Y0:=aa (show Bx W0 (w.heap.size+1) #[.int .i64 kd,.slice a1 n1 c1,.slice a2 n2 c2] 173 by
  rw[hW0.o];have h:=(Bx.new (w.alloc (.cells #[.int .i64 ses,.int .i64 base,.slice qa qn qc] 105)) #[.int .i64 kd,.slice a1 n1 c1,.slice a2 n2 c2] 173).alloc (.cells #[.int .i64 0,.int .i64 0,.slice none 0 0] 105);rw[World.size_alloc] at h;exact h)
 have R0:=aa (show Bx W0 (w.heap.size+2) #[.int .i64 0,.int .i64 0,.slice none 0 0] 105 by
  rw[hW0.o];have h:=Bx.new ((w.alloc (.cells #[.int .i64 ses,.int .i64 base,.slice qa qn qc] 105)).alloc (.cells #[.int .i64 kd,.slice a1 n1 c1,.slice a2 n2 c2] 173)) #[.int .i64 0,.int .i64 0,.slice none 0 0] 105;rw[World.size_alloc,World.size_alloc] at h;exact h)
 have D0:=aa (show Gq w W0 by rw[hW0.o];exact((af _ _).alloc (by simp) _).alloc (by simp;omega) _);have HQ:=aa (hq.later D0.o);have HI:=aa (hi.later D0.o);have HK:=aa (hk.later D0.o);have HN:=aa hq.1;have HIN:=aa hi.1;clear hq hi hk;obtain⟨x0,x1,x2⟩:=X0.o.three;go_enter Tryz.func115,Tryz.ntmps115;go_wp2_with fail;rw[←hW0.o];refine(ky ses base qa qn qc fs W0 HQ.o).mono ?_;rintro e w1 ⟨rfl,D1⟩;have X1:=aa (X0.o.later D1 X0.o.lt);have Y1:=aa (Y0.o.later D1 Y0.o.lt);have R1:=aa (R0.o.later D1 R0.o.lt);have B1:=aa (D0.o.trans (D1.mono D0.o.size));clear x0 x1 x2;by_cases hm:Mx.bD ⟨ses,base,fs⟩=0
 ·have HM:=aa hm
  have HOK:=aa (Mx.mU hm);have hq64:qn≤64:=by have h1:fs.length≤64:=HOK.o.2.1;have h2:=HN.o;omega
  have hb0:0≤base:=HOK.o.1.2.2.1;have hb1:base≤2147483647:=HOK.o.1.2.2.2;have HPS:=aa (show ∀ f∈fs,f.al.length≤1000∧f.nb≤1000 from fun f hf=>Mx.jv (HOK.o.2.2 f hf));rw[hm,aG];clear hm;obtain⟨y0,y1,y2⟩:=Y1.o.three;have HI1:=aa (HI.o.later D1);have HK1:=aa (HK.o.later D1);go_wp2_with fail;refine(dh kd a1 a2 n1 c1 n2 c2 nm bs w1 HI1.o HK1.o.2.1).mono ?_;rintro e w2 ⟨rfl,D2⟩;have X2:=aa (X1.o.later D2 X1.o.lt);have Y2:=aa (Y1.o.later D2 Y1.o.lt);have R2:=aa (R1.o.later D2 R1.o.lt);have B2:=aa (B1.o.trans (D2.mono B1.o.size));clear y0 y1 y2;by_cases hf:Mx.bZ ⟨kd,nm,n2,bs⟩=0
  ·have HF:=aa hf
   have HSZ:=aa (Mx.jv hf);rw[hf,aG];clear hf;obtain⟨x0,x1,x2⟩:=X2.o.three;have hwq:IntKind.i64.wrap (2147483647-(qn:Int))=2147483647-(qn:Int):=by rw[IntWalk.i64_left,IntWalk.wrap64_in _ (by omega)]
   by_cases h64:qn=64
   ·have HO:=aa (Mx.yZ (s:=⟨ses,base,fs⟩) (f:=⟨kd,nm,n2,bs⟩) HM.o HF.o (.inl (by rw[HN.o];exact h64)))
    have d64:((qn:Int)==64)=true:=by simpa using (show(qn:Int)=64 by omega)
    have d64n:(qn==64)=true:=by simpa using h64
    clear h64;obtain⟨r0,r1,r2⟩:=R2.o.three;have rz:=R2.o.frozen;go_wp2_with fail;obtain⟨t0,t1,t2⟩:=(R2.o.aH (.int .i64 0) (.int .i64 0) (.slice none 0 0)).three;exact bodyPost_ret (v:=.tuple #[.agg #[.int .i64 0,.int .i64 0,.slice none 0 0],.iface 28 (.int .i64 2)]) (by simp[results,Tryz.results115,go_sem,t0,t1,t2]) rfl ⟨_,by rw[HO.o]<;>rfl,.inl ⟨by rw[HO.o];decide,SdA.zero _ _⟩,aF B2.o (by omega) _ _ _⟩
   ·have d64:((qn:Int)==64)=false:=by simpa using (show ¬(qn:Int)=64 by omega)
    have d64n:(qn==64)=false:=by simpa using h64
    by_cases hbq:2147483647-(qn:Int)≤base
    ·have HO:=aa (Mx.yZ (s:=⟨ses,base,fs⟩) (f:=⟨kd,nm,n2,bs⟩) HM.o HF.o (.inr (by show 2147483647≤base+(fs.length:Int);rw[HN.o];omega)))
     have dbq:decide (2147483647-(qn:Int)≤base)=true:=by simpa using hbq
     clear hbq;obtain⟨r0,r1,r2⟩:=R2.o.three;have rz:=R2.o.frozen;go_wp2_with fail;obtain⟨t0,t1,t2⟩:=(R2.o.aH (.int .i64 0) (.int .i64 0) (.slice none 0 0)).three;exact bodyPost_ret (v:=.tuple #[.agg #[.int .i64 0,.int .i64 0,.slice none 0 0],.iface 28 (.int .i64 2)]) (by simp[results,Tryz.results115,go_sem,t0,t1,t2]) rfl ⟨_,by rw[HO.o]<;>rfl,.inl ⟨by rw[HO.o];decide,SdA.zero _ _⟩,aF B2.o (by omega) _ _ _⟩
    ·have HO:=aa (Mx.yY (s:=⟨ses,base,fs⟩) (f:=⟨kd,nm,n2,bs⟩) HM.o HF.o (by show ¬(fs.length=64∨2147483647≤base+(fs.length:Int));rw[HN.o];omega))
     have dbq:decide (2147483647-(qn:Int)≤base)=false:=by simpa using hbq
     have hn1:n1≤1000:=by have h1:nm.length≤1000:=HSZ.o.1;have h2:=HIN.o;omega
     have hn2:n2≤1000:=HSZ.o.2;clear hbq h64;obtain⟨w3,hw3⟩:∃ w3:World,Hid (w3=w2):=⟨_,rfl⟩
     rw[←hw3.o] at X2 Y2 R2 B2 x0 x1 x2 ⊢;have X3:=X2;have Y3:=Y2;have R3:=R2;have B3:=B2;have Q3:=aa (show FL w3 qa qn fs by rw[hw3.o];exact(HQ.o.later D1).later D2);have I3:=aa (show ay w3 a1 n1 nm by rw[hw3.o];exact HI1.o.later D2);have K3:=aa (show aS w3 a2 n2 bs by rw[hw3.o];exact HK1.o.later D2);have hx3:w.heap.size<w3.heap.size:=X3.o.lt;have hy3:w.heap.size+1<w3.heap.size:=Y3.o.lt;have hr3:w.heap.size+2<w3.heap.size:=R3.o.lt;have hqd:qn≤1000:=by omega
     have hql:fs.length≤100000:=by have:=HN.o;omega
     clear x0 x1 x2;obtain⟨x0,x1,x2⟩:=X3.o.three;obtain⟨y0,y1,y2⟩:=Y3.o.three;go_upto_region 10 with fail
     go_region_held3 (fun w'=>w'.cell? ⟨w.heap.size,2,none⟩=some (.slice qa qn qc)∧w'.cell? ⟨w.heap.size+1,0,none⟩=some (.int .i64 kd)∧w'.cell? ⟨w.heap.size+1,1,none⟩=some (.slice a1 n1 c1)∧w'.cell? ⟨w.heap.size+1,2,none⟩=some (.slice a2 n2 c2))
      (first
        | with_reducible exact ⟨x2, y0, y1, y2⟩
        |(simp only[an];with_reducible exact⟨x2,y0,y1,y2⟩)
        | with_reducible exact ⟨s2, p0, p1, p2⟩
        |(simp only[ao hs4x,ao hs4y];with_reducible exact⟨s2,p0,p1,p2⟩)
        | with_reducible exact ⟨u2, v0, v1, v2⟩
        |(simp only[ao hs5x,ao hs5y];with_reducible exact⟨u2,v0,v1,v2⟩)
        | with_reducible exact ⟨i2, j0, j1, j2⟩)
      (first
        |(go_at_call 124;(with_reducible refine(eQ qa qn qc fs w3.drew (Q3.o.later (Below.refl _ _).drew) hqd HPS.o).mono ?_);rintro e w4 ⟨vq,rfl,OQ,E4⟩;have D4:=aa (eP E4.o);obtain⟨s0,s1,s2⟩:=(X3.o.later D4.o hx3).three;obtain⟨p0,p1,p2⟩:=(Y3.o.later D4.o hy3).three)
        |(go_at_call 141;(with_reducible refine(kA kd a1 a2 n1 c1 n2 c2 nm bs w3.drew (I3.o.later (Below.refl _ _).drew) (K3.o.later (Below.refl _ _).drew) hn1 hn2).mono ?_);rintro e w4 ⟨vf,rfl,FV,E4⟩;have D4:=aa (eP E4.o);have FV':=FV.o;obtain⟨x1',m1,k1,x2',k2,rfl,g1,g2,g3,g4,g5,g6⟩:=FV';dsimp only at g1 g2 g4 g5 g6;have G1:=aa g1;have G2:=aa g2;have G3:=aa g3;have G4:=aa g4;have G5:=aa g5;have G6:=aa g6;clear g1 g2 g3 g4 g5 g6;obtain⟨s0,s1,s2⟩:=(X3.o.later D4.o hx3).three;obtain⟨p0,p1,p2⟩:=(Y3.o.later D4.o hy3).three;have hs4x:w.heap.size<w4.heap.size:=Gf hx3 D4.o.size;have hs4y:w.heap.size+1<w4.heap.size:=Gf hy3 D4.o.size)
        |(go_at_call 141;(with_reducible refine(kA kd a1 a2 n1 c1 n2 c2 nm bs w4 (I3.o.later D4.o) (K3.o.later D4.o) hn1 hn2).mono ?_);rintro e w5 ⟨vf,rfl,FV,E5⟩;have D5:=aa (show Gq w3 w5 from D4.o.trans (E5.o.mono D4.o.size));have FV':=FV.o;obtain⟨x1',m1,k1,x2',k2,rfl,g1,g2,g3,g4,g5,g6⟩:=FV';dsimp only at g1 g2 g4 g5 g6;have G1:=aa g1;have G2:=aa g2;have G3:=aa g3;have G4:=aa g4;have G5:=aa g5;have G6:=aa g6;clear g1 g2 g3 g4 g5 g6;have OQ5:=aa ((OQ.o.later E5.o).low (show w3.heap.size≤w3.drew.heap.size from Gi _));replace OQ5:=aa (OQ5.o.mono (show w3.heap.size≤w3.drew.heap.size from Gi _));have Q15:=aa (show 0<m1→∀ p,x1'=some p→vq.ownBlock≠some p.block∧w3.heap.size≤p.block from fun h0 p hp=>⟨fun e=>by have h1:=(OQ.o.lt _ e).2;have h2:=G5.o h0 p hp;omega,by have h2:=G5.o h0 p hp;have h3:=D4.o.size;omega⟩);have Q25:=aa (show 0<n2→∀ p,x2'=some p→vq.ownBlock≠some p.block∧w3.heap.size≤p.block from fun h0 p hp=>⟨fun e=>by have h1:=(OQ.o.lt _ e).2;have h2:=G6.o h0 p hp;omega,by have h2:=G6.o h0 p hp;have h3:=D4.o.size;omega⟩);obtain⟨u0,u1,u2⟩:=(X3.o.later D5.o hx3).three;obtain⟨v0,v1,v2⟩:=(Y3.o.later D5.o hy3).three;have hs5x:w.heap.size<w5.heap.size:=Gf hx3 D5.o.size;have hs5y:w.heap.size+1<w5.heap.size:=Gf hy3 D5.o.size)
        |(go_at_call 124;(with_reducible refine(eQ qa qn qc fs w4 (Q3.o.later D4.o) hqd HPS.o).mono ?_);rintro e w5 ⟨vq,rfl,OQ,E5⟩;have D5:=aa (show Gq w3 w5 from D4.o.trans (E5.o.mono D4.o.size));have OQ5:=aa ((OQ.o.low (show w3.heap.size≤w4.heap.size from D4.o.size)).mono (show w3.heap.size≤w4.heap.size from D4.o.size));have Q15:=aa (show 0<m1→∀ p,x1'=some p→vq.ownBlock≠some p.block∧w3.heap.size≤p.block from fun h0 p hp=>⟨fun e=>by have h1:=(OQ.o.lt _ e).1;have h2:=G1.o.row.off h0 p hp;omega,G5.o h0 p hp⟩);have Q25:=aa (show 0<n2→∀ p,x2'=some p→vq.ownBlock≠some p.block∧w3.heap.size≤p.block from fun h0 p hp=>⟨fun e=>by have h1:=(OQ.o.lt _ e).1;have h2:=G2.o.row.off h0 p hp;omega,G6.o h0 p hp⟩);replace G1:=aa (G1.o.later E5.o);replace G2:=aa (G2.o.later E5.o);obtain⟨u0,u1,u2⟩:=(X3.o.later D5.o hx3).three;obtain⟨v0,v1,v2⟩:=(Y3.o.later D5.o hy3).three;have hs5x:w.heap.size<w5.heap.size:=Gf hx3 D5.o.size;have hs5y:w.heap.size+1<w5.heap.size:=Gf hy3 D5.o.size)
        |(go_at_call 124;(with_reducible refine(eQ qa qn qc fs (w4.alloc (.cells #[.int .i64 kd,.slice x1' m1 k1,.slice x2' n2 k2] 173)) (Q3.o.later (D4.o.alloc D4.o.size _)) hqd HPS.o).mono ?_);rintro e w5 ⟨vq,rfl,OQ,E5⟩;have D45:=aa (show Gq w4 w5 from(af w4 _).trans (E5.o.mono (by simp)));have D5:=aa (show Gq w3 w5 from D4.o.trans (D45.o.mono D4.o.size));have XEP:=aa ((Bx.new w4 #[.int .i64 kd,.slice x1' m1 k1,.slice x2' n2 k2] 173).later E5.o (by simp));have hw45:w4.heap.size+1=(w4.alloc (.cells #[.int .i64 kd,.slice x1' m1 k1,.slice x2' n2 k2] 173)).heap.size:=by simp;have OQ5:=aa ((OQ.o.low (show w3.heap.size≤(w4.alloc (.cells #[.int .i64 kd,.slice x1' m1 k1,.slice x2' n2 k2] 173)).heap.size by have:=D4.o.size;omega)).mono (show w3.heap.size≤(w4.alloc (.cells #[.int .i64 kd,.slice x1' m1 k1,.slice x2' n2 k2] 173)).heap.size by have:=D4.o.size;omega));have Q15:=aa (show 0<m1→∀ p,x1'=some p→vq.ownBlock≠some p.block∧w3.heap.size≤p.block from fun h0 p hp=>⟨fun e=>by have h1:=(OQ.o.lt _ e).1;have h2:=G1.o.row.off h0 p hp;omega,G5.o h0 p hp⟩);have Q25:=aa (show 0<n2→∀ p,x2'=some p→vq.ownBlock≠some p.block∧w3.heap.size≤p.block from fun h0 p hp=>⟨fun e=>by have h1:=(OQ.o.lt _ e).1;have h2:=G2.o.row.off h0 p hp;omega,G6.o h0 p hp⟩);replace G1:=aa (G1.o.later D45.o);replace G2:=aa (G2.o.later D45.o);obtain⟨u0,u1,u2⟩:=(X3.o.later D5.o hx3).three;obtain⟨v0,v1,v2⟩:=(Y3.o.later D5.o hy3).three)
        |(refine ke (w:=w5.alloc (.cells #[.int .i64 kd,.slice x1' m1 k1,.slice x2' n2 k2] 173)) rfl (.tmp 38) (.tmp 41) rfl w3.heap.size w3.heap.size (v:=vq) (fs:=fs) rfl ?o1 w5.heap.size (kd:=kd) (a1:=x1') (n1:=m1) (c1:=k1) (a2:=x2') (n2:=n2) (c2:=k2) (nm:=nm) (bs:=bs) rfl (Bx.new _ _ _) ?o2 ?o3 G3.o G4.o Q15.o Q25.o hql ?o4 ?_;(case o1=>exact OQ5.o.later (af _ _));(case o2=>exact G1.o.later (af _ _));(case o3=>exact G2.o.later (af _ _));(case o4=>exact Gn D5.o.size (by simp));intro v6 w6 O6 G6';have FB:=O6.o.fla (Gi _);obtain⟨za,zc,hv,hzc,hfa⟩:=FB;rw[Ge,List.length_singleton,HN.o] at hv hzc hfa;subst hv;have ZA:=aa hfa;have ZCq:=aa hzc;clear hfa hzc;have D6:=aa (show Gq w3 w6 from(D5.o.alloc D5.o.size _).grown G6'.o (Gn D5.o.size (by simp)) (fun i hi=>(OQ5.o.lt i hi).1));obtain⟨i0,i1,i2⟩:=(X3.o.later D6.o hx3).three;obtain⟨j0,j1,j2⟩:=(Y3.o.later D6.o hy3).three)
        |(refine ke (w:=w5) rfl (.tmp 38) (.tmp 41) rfl w3.heap.size w3.heap.size (v:=vq) (fs:=fs) rfl OQ5.o w4.heap.size (kd:=kd) (a1:=x1') (n1:=m1) (c1:=k1) (a2:=x2') (n2:=n2) (c2:=k2) (nm:=nm) (bs:=bs) rfl XEP.o G1.o G2.o G3.o G4.o Q15.o Q25.o hql D5.o.size ?_;intro v6 w6 O6 G6';have FB:=O6.o.fla (Gi _);obtain⟨za,zc,hv,hzc,hfa⟩:=FB;rw[Ge,List.length_singleton,HN.o] at hv hzc hfa;subst hv;have ZA:=aa hfa;have ZCq:=aa hzc;clear hfa hzc;have D6:=aa (show Gq w3 w6 from D5.o.grown G6'.o D5.o.size (fun i hi=>(OQ5.o.lt i hi).1));obtain⟨i0,i1,i2⟩:=(X3.o.later D6.o hx3).three;obtain⟨j0,j1,j2⟩:=(Y3.o.later D6.o hy3).three))
     all_goals
      have X6:=aa (X3.o.later D6.o hx3);have R6:=aa (R3.o.later D6.o hr3);have B6:=aa (B3.o.trans (D6.o.mono B3.o.size));obtain⟨z0,z1,z2⟩:=X6.o.three;obtain⟨r0,r1,r2⟩:=R6.o.three;have rz:=R6.o.frozen;have GF:=aa (bp (aq w6 (some (w.heap.size+2))) (.int .i64 ses) (.int .i64 base) (.slice za (qn+1) zc));have ZF:=aa ((ZA.o.grown GF.o hr3).low (show w.heap.size≤_ by omega));have BF:=aa (show Gq w (ca w6 (w.heap.size+2) (.int .i64 ses) (.int .i64 base) (.slice za (qn+1) zc)) from aF B6.o (by omega) _ _ _);go_wp2_with fail;obtain⟨t0,t1,t2⟩:=(R6.o.aH (.int .i64 ses) (.int .i64 base) (.slice za (qn+1) zc)).three;exact bodyPost_ret (v:=.tuple #[.agg #[.int .i64 ses,.int .i64 base,.slice za (qn+1) zc],.nilIface]) (by simp[results,Tryz.results115,go_sem,t0,t1,t2]) rfl ⟨_,by rw[HO.o,aG],.inr ⟨HO.o,⟨za,qn+1,zc,rfl,ZF.o,ZCq.o⟩⟩,BF⟩
  ·have HO:=aa (Mx.Fa (s:=⟨ses,base,fs⟩) (f:=⟨kd,nm,n2,bs⟩) HM.o hf)
   have HE:=aa (aZ hf);have HNE:=aa hf;rw[HE.o];clear hf;obtain⟨r0,r1,r2⟩:=R2.o.three;have rz:=R2.o.frozen;go_wp2_with fail;obtain⟨t0,t1,t2⟩:=(R2.o.aH (.int .i64 0) (.int .i64 0) (.slice none 0 0)).three;exact bodyPost_ret (v:=.tuple #[.agg #[.int .i64 0,.int .i64 0,.slice none 0 0],.iface 28 (.int .i64 (Mx.bZ ⟨kd,nm,n2,bs⟩))]) (by simp[results,Tryz.results115,go_sem,t0,t1,t2]) rfl ⟨_,by rw[HO.o];rw[HE.o],.inl ⟨by rw[HO.o];exact HNE.o,SdA.zero _ _⟩,aF B2.o (by omega) _ _ _⟩
 ·have HO:=aa (Mx.Fb (f:=⟨kd,nm,n2,bs⟩) hm)
  have HE:=aa (aZ hm);have HNE:=aa hm;rw[HE.o];clear hm;obtain⟨r0,r1,r2⟩:=R1.o.three;have rz:=R1.o.frozen;go_wp2_with fail;obtain⟨t0,t1,t2⟩:=(R1.o.aH (.int .i64 0) (.int .i64 0) (.slice none 0 0)).three;exact bodyPost_ret (v:=.tuple #[.agg #[.int .i64 0,.int .i64 0,.slice none 0 0],.iface 28 (.int .i64 (Mx.bD ⟨ses,base,fs⟩))]) (by simp[results,Tryz.results115,go_sem,t0,t1,t2]) rfl ⟨_,by rw[HO.o];rw[HE.o],.inl ⟨by rw[HO.o];exact HNE.o,SdA.zero _ _⟩,aF B1.o (by omega) _ _ _⟩
section
variable {n k:Int}
theorem Bx.four {w:World} {g:Nat} {s0 s1 s2 s3:Value} {t:TypeId} (h:Bx w g #[s0,s1,s2,s3] t):w.cell? ⟨g,0,none⟩=some s0∧w.cell? ⟨g,1,none⟩=some s1∧w.cell? ⟨g,2,none⟩=some s2∧w.cell? ⟨g,3,none⟩=some s3:=⟨h.cell 0,h.cell 1,h.cell 2,h.cell 3⟩
namespace Mx
theorem m9 {b:Bu} (h:n<1∨32<n∨b.num<0∨2147483647<b.num):aK b n=1:=by rw[aK,if_pos h]
theorem Em {b:Bu} (h:¬(n<1∨32<n∨b.num<0∨2147483647<b.num)) (h2:4<b.se.length):aK b n=2:=by rw[aK,if_neg h,if_pos h2]
theorem rD {b:Bu} (h:¬(n<1∨32<n∨b.num<0∨2147483647<b.num)) (h2:¬4<b.se.length) (h3:fh b n=false):aK b n=3:=by rw[aK,if_neg h,if_neg h2,h3];rfl
theorem xJ {b:Bu} (h:¬(n<1∨32<n∨b.num<0∨2147483647<b.num)) (h2:¬4<b.se.length) (h3:fh b n=true):aK b n=0:=by rw[aK,if_neg h,if_neg h2,h3];rfl
theorem bM {b:Bu} (h:aK b n=0):(1≤n∧n≤32∧0≤b.num∧b.num≤2147483647)∧b.se.length≤4∧fh b n=true:=by
 unfold aK at h;split at h
 ·omega
 ·split at h
  ·omega
  ·split at h
   ·next h1 h2 h3=>exact⟨by omega,by omega,h3⟩
   ·omega
def cW (b:Bu) (n k:Int):Int:=if aK b n=0 then (if k<0∨b.num<k then 1 else 0) else aK b n
theorem yN {b:Bu} (h:aK b n=0) (hk:k<0∨b.num<k):cW b n k=1:=by rw[cW,if_pos h,if_pos hk]
theorem nR {b:Bu} (h:aK b n=0) (hk:¬(k<0∨b.num<k)):cW b n k=0:=by rw[cW,if_pos h,if_neg hk]
theorem Bp {b:Bu} (h:aK b n≠0):cW b n k=aK b n:=by rw[cW,if_neg h]
theorem bW {b:Bu} (h:fh b n=true):(b.be=true→b.se=[])∧bB n b.op=true∧ep b.se b.num n=true:=by
 unfold fh at h;simp only[Bool.and_eq_true,Bool.not_eq_true',Bool.and_eq_false_iff] at h;refine⟨fun hb=>?_,h.1.2,h.2⟩;rcases h.1.1 with h1|h1
 ·rw[hb] at h1
  cases h1
 ·simpa using h1
end Mx
theorem vL (a:Option Addr) (k c:Nat) (es:List Ep) (num:Int) (n:Nat) (w:World) (he:EL w a k es) (hn:n≤1000) (h0:0≤num) (h1:num≤2147483647) :
 Calls Tryz.prog 108 #[.slice a k c,.int .i64 num,.int .i64 (n:Int)] w fun e w'=>e=.returned (.bool (Mx.ep es num n))∧Gq w w':=by
 have hlen:k≤maxLen:=he.2.1;unfold maxLen at hlen;have HE:=aa he;have HN:=aa he.1;clear he;by_cases hk:(k:Int)≤num
 ·have hd:decide (num-(k:Int)<0)=false:=by simp;omega
  go_enter Tryz.func108,Tryz.ntmps108;go_wp2_with fail;go_loopw [18] (fun t wr=>∃ j:Nat,j≤k∧t=.int .i64 (j:Int)∧Hid (Mx.ri es num n j)∧Hid (Gq w wr)) (fun t _=>k-(intOf t).toNat)
  case atStart=>exact⟨0,by omega,rfl,fun i hi=>absurd hi (by omega),Below.refl _ _⟩
  case round =>
   obtain⟨j,hj,rfl,hR,hB⟩:=hrel;by_cases hlt:j<k
   ·obtain⟨b,off,e,ai,ni,ci,hab,_,hx,e0,e1,hp,hc⟩:=(HE.o.later hB.o).at_ j hlt
    subst hab;obtain⟨z,ps⟩:=e;have HG:=aa (show Mx.iF n num es.length j (es.getD j Mx.dE)=(Mx.bB n ps && decide (z=num-k+1+j)) by unfold Mx.iF;rw[Ga,hx,HN.o];rfl);have HP:=aa hp;dsimp only at e0;clear hx hp;have B1:=aa (hB.o.alloc hB.o.size (.cells #[.int .i64 z,.slice ai ni ci] 164));have hji:(j:Int)<k:=by omega
    by_cases hz:z=num-k+1+j
    ·subst hz
     go_wp2_with fail;refine(mb ai ni ci ps n _ (HP.o.later (af _ _)) hn).mono ?_;rintro e w2 ⟨rfl,hb2⟩;have B2:=aa (B1.o.trans (hb2.mono B1.o.size));clear hb2 e0 e1;cases hr:Mx.bB (n:Int) ps with
     | true =>
      have HR2:=aa (Mx.vJ hR.o (by rw[HG.o,hr];simp));clear hr;go_wp2_with fail;go_roundw
      case rel=>exact⟨j+1,by omega,by go_num,HR2,B2⟩
      case measure=>simp[intOf];omega
     | false =>
      have HF:=aa (Mx.rP (n:=n) (num:=num) (by rw[HN.o];exact hlt) (by rw[HG.o,hr];rfl));clear hr;go_wp2_with fail;go_ret;exact⟨by rw[HF.o]<;>rfl,B2.o⟩
    ·have hne:(z != num-(k:Int)+1+(j:Int))=true:=by simpa using hz
     have HF:=aa (Mx.rP (n:=n) (num:=num) (by rw[HN.o];exact hlt) (by rw[HG.o];simp[hz]));clear hz;go_wp2_with fail;go_ret;exact⟨by rw[HF.o]<;>rfl,B1.o⟩
   ·have HF:=aa (Mx.jc (es:=es) (num:=num) (n:=n) (by rw[HN.o];exact hk) (fun i hi=>hR.o i (by have:=HN.o;omega)))
    go_wp2_with fail;go_ret;exact⟨by rw[HF.o]<;>rfl,hB.o⟩
 ·have hd:decide (num-(k:Int)<0)=true:=by simp;omega
  have HF:=aa (Mx.AR (es:=es) (num:=num) (n:=n) (by rw[HN.o];omega));go_enter Tryz.func108,Tryz.ntmps108;go_wp2_with fail;go_ret;exact⟨by rw[HF.o]<;>rfl,Below.refl _ _⟩
theorem kt (num:Int) (oa:Option Addr) (on oc:Nat) (sa:Option Addr) (sn sc:Nat) (be:Bool) (ops:List Pt) (es:List Ep) (n:Int) (w:World) (hp:PL w oa on ops) (he:EL w sa sn es) :
 Calls Tryz.prog 66 #[.agg #[.int .i64 num,.slice oa on oc,.slice sa sn sc,.bool be],.int .i64 n] w fun e w'=>e=.returned (bt (Mx.aK ⟨num,ops,es,be⟩ n))∧Gq w w':=by
 have hlen:sn≤maxLen:=he.2.1;unfold maxLen at hlen;have HP:=aa hp;have HE:=aa he;have HN:=aa he.1;clear hp he;by_cases h1:n<1
 ·have dh1:decide (n<1)=true:=by simpa using h1
  have HF:=aa (Mx.m9 (b:=⟨num,ops,es,be⟩) (n:=n) (.inl h1));go_enter Tryz.func66,Tryz.ntmps66;go_wp2_with fail;go_ret;exact⟨by rw[HF.o]<;>rfl,af _ _⟩
 have dh1:decide (n<1)=false:=by simpa using h1
 by_cases h2:32<n
 ·have dh2:decide (32<n)=true:=by simpa using h2
  have HF:=aa (Mx.m9 (b:=⟨num,ops,es,be⟩) (n:=n) (.inr (.inl h2)));go_enter Tryz.func66,Tryz.ntmps66;go_wp2_with fail;go_ret;exact⟨by rw[HF.o]<;>rfl,af _ _⟩
 have dh2:decide (32<n)=false:=by simpa using h2
 by_cases h3:num<0
 ·have dh3:decide (num<0)=true:=by simpa using h3
  have HF:=aa (Mx.m9 (b:=⟨num,ops,es,be⟩) (n:=n) (.inr (.inr (.inl h3))));go_enter Tryz.func66,Tryz.ntmps66;go_wp2_with fail;go_ret;exact⟨by rw[HF.o]<;>rfl,af _ _⟩
 have dh3:decide (num<0)=false:=by simpa using h3
 by_cases h4:2147483647<num
 ·have dh4:decide (2147483647<num)=true:=by simpa using h4
  have HF:=aa (Mx.m9 (b:=⟨num,ops,es,be⟩) (n:=n) (.inr (.inr (.inr h4))));go_enter Tryz.func66,Tryz.ntmps66;go_wp2_with fail;go_ret;exact⟨by rw[HF.o]<;>rfl,af _ _⟩
 have dh4:decide (2147483647<num)=false:=by simpa using h4
 have hrg:¬(n<1∨32<n∨num<0∨2147483647<num):=by omega
 by_cases h5:(4:Int)<sn
 ·have dh5:decide ((4:Int)<sn)=true:=by simpa using h5
  have HF:=aa (Mx.Em (b:=⟨num,ops,es,be⟩) (n:=n) hrg (by have:=HN.o;show 4<es.length;omega));go_enter Tryz.func66,Tryz.ntmps66;go_wp2_with fail;go_ret;exact⟨by rw[HF.o]<;>rfl,af _ _⟩
 have dh5:decide ((4:Int)<sn)=false:=by simpa using h5
 have hsl:¬4<es.length:=by have:=HN.o;omega
 obtain⟨N,rfl⟩:=Int.eq_ofNat_of_zero_le (show 0≤n by omega);have hbe:be=true∧(0:Int)<sn∨be=true∧¬(0:Int)<sn∨be=false:=by cases be<;>simp;omega
 rcases hbe with ⟨rfl,hs⟩|hbe
 ·have dhs:decide ((0:Int)<sn)=true:=by simpa using hs
  have HF:=aa (Mx.rD (b:=⟨num,ops,es,true⟩) (n:=N) hrg hsl (by unfold Mx.fh;rw[show decide (0<es.length)=true by have:=HN.o;simp;omega];rfl));go_enter Tryz.func66,Tryz.ntmps66;go_wp2_with fail;go_ret;exact⟨by rw[HF.o]<;>rfl,af _ _⟩
 have HBE:=aa (show(be && decide (0<es.length))=false by
  rcases hbe with ⟨rfl,hs⟩|rfl
  ·have:=HN.o
   rw[Bool.true_and,decide_eq_false_iff_not];omega
  ·rfl)
 have HM3r:=aa (show Mx.bB (N:Int) ops=false→Mx.aK ⟨num,ops,es,be⟩ N=3 from fun hr=>Mx.rD hrg hsl (by unfold Mx.fh;rw[hr];simp));have HM3f:=aa (show Mx.ep es num (N:Int)=false→Mx.aK ⟨num,ops,es,be⟩ N=3 from fun hf=>Mx.rD hrg hsl (by unfold Mx.fh;rw[hf];simp));have HM0:=aa (show Mx.bB (N:Int) ops=true→Mx.ep es num (N:Int)=true→Mx.aK ⟨num,ops,es,be⟩ N=0 from fun hr hf=>Mx.xJ hrg hsl (by unfold Mx.fh;rw[hr,hf,HBE.o];rfl));have X0:=aa (Bx.new w #[.int .i64 num,.slice oa on oc,.slice sa sn sc,.bool be] 101);rcases hbe with ⟨rfl,hs⟩|rfl
 all_goals
  first|have dhs:decide ((0:Int)<sn)=false:=by simpa using hs|skip
  go_enter Tryz.func66,Tryz.ntmps66;go_wp2_with fail;refine(mb oa on oc ops N _ (HP.o.later (af _ _)) (by omega)).mono ?_;rintro e w1 ⟨rfl,hb1⟩;have X1:=aa (X0.o.later hb1 X0.o.lt);have B1:=aa ((af w _).trans (hb1.mono (by simp)));have HE1:=aa (HE.o.later B1.o);clear hb1;obtain⟨f0,f1,f2,f3⟩:=X1.o.four;cases hr:Mx.bB (N:Int) ops with
  | false =>
   have HF:=aa (HM3r.o hr);clear hr;go_wp2_with fail;go_ret;exact⟨by rw[HF.o]<;>rfl,B1.o⟩
  | true =>
   have HR:=aa hr;clear hr;go_wp2_with fail;refine(vL sa sn sc es num N w1 HE1.o (by omega) (by omega) (by omega)).mono ?_;rintro e w2 ⟨rfl,hb2⟩;have B2:=aa (B1.o.trans (hb2.mono B1.o.size));clear hb2 f0 f1 f2 f3;cases hf:Mx.ep es num (N:Int) with
   | false =>
    have HF:=aa (HM3f.o hf);clear hf;go_wp2_with fail;go_ret;exact⟨by rw[HF.o]<;>rfl,B2.o⟩
   | true =>
    have HF:=aa (HM0.o HR.o hf);clear hf;go_wp2_with fail;go_ret;exact⟨by rw[HF.o]<;>rfl,B2.o⟩
theorem ja (num:Int) (oa:Option Addr) (on oc:Nat) (sa:Option Addr) (sn sc:Nat) (be:Bool) (ops:List Pt) (es:List Ep) (n k:Int) (w:World) (hp:PL w oa on ops) (he:EL w sa sn es) :
 Calls Tryz.prog 146 #[.agg #[.int .i64 num,.slice oa on oc,.slice sa sn sc,.bool be],.int .i64 n,.int .i64 k] w fun e w' =>
  e=.returned (bt (Mx.cW ⟨num,ops,es,be⟩ n k))∧Gq w w':=by
 have HP:=aa hp;have HE:=aa he;clear hp he;have X0:=aa (Bx.new w #[.int .i64 num,.slice oa on oc,.slice sa sn sc,.bool be] 101);go_enter Tryz.func146,Tryz.ntmps146;go_wp2_with fail;refine(kt num oa on oc sa sn sc be ops es n _ (HP.o.later (af _ _)) (HE.o.later (af _ _))).mono ?_;rintro e w1 ⟨rfl,hb1⟩;have X1:=aa (X0.o.later hb1 X0.o.lt);have B1:=aa ((af w _).trans (hb1.mono (by simp)));clear hb1;obtain⟨f0,f1,f2,f3⟩:=X1.o.four;by_cases hb:Mx.aK ⟨num,ops,es,be⟩ n=0
 ·have HB:=aa hb
  rw[hb,aG];clear hb;by_cases h1:k<0
  ·have dh1:decide (k<0)=true:=by simpa using h1
   have HF:=aa (Mx.yN (b:=⟨num,ops,es,be⟩) HB.o (.inl h1));go_wp2_with fail;go_ret;exact⟨by rw[HF.o]<;>rfl,B1.o⟩
  ·have dh1:decide (k<0)=false:=by simpa using h1
   by_cases h2:num<k
   ·have dh2:decide (num<k)=true:=by simpa using h2
    have HF:=aa (Mx.yN (b:=⟨num,ops,es,be⟩) HB.o (.inr h2));go_wp2_with fail;go_ret;exact⟨by rw[HF.o]<;>rfl,B1.o⟩
   ·have dh2:decide (num<k)=false:=by simpa using h2
    have HF:=aa (Mx.nR (b:=⟨num,ops,es,be⟩) (k:=k) HB.o (by show ¬(k<0∨num<k);omega));go_wp2_with fail;go_ret;exact⟨by rw[HF.o]<;>rfl,B1.o⟩
 ·rw[aZ hb]
  have HB:=aa hb;clear hb;go_wp2_with fail;go_ret;exact⟨by rw[Mx.Bp HB.o,aZ HB.o]<;>rfl,B1.o⟩
end
def Mx.small (ops:List Pt) (es:List Ep):Prop:=(∀ e∈es,e.aI.length≤100)∧es.length≤20∧ops.length≤100
theorem Bx.nine {w:World} {g:Nat} {p:Pt} {t:TypeId} (h:Bx w g #[.int .i64 p.at_,.int .u8 p.d.z0,.int .u8 p.d.z1,.int .u8 p.d.z2,.int .u8 p.d.z3,.int .u8 p.d.z4,.int .u8 p.d.z5,.int .u8 p.d.z6,.int .u8 p.d.z7] t) :
 w.cell? ⟨g,0,none⟩=some (.int .i64 p.at_)∧w.cell? ⟨g,1,none⟩=some (.int .u8 p.d.z0)∧w.cell? ⟨g,2,none⟩=some (.int .u8 p.d.z1)∧w.cell? ⟨g,3,none⟩=some (.int .u8 p.d.z2)∧w.cell? ⟨g,4,none⟩=some (.int .u8 p.d.z3) ∧
 w.cell? ⟨g,5,none⟩=some (.int .u8 p.d.z4)∧w.cell? ⟨g,6,none⟩=some (.int .u8 p.d.z5)∧w.cell? ⟨g,7,none⟩=some (.int .u8 p.d.z6)∧w.cell? ⟨g,8,none⟩=some (.int .u8 p.d.z7) :=
 ⟨h.cell 0,h.cell 1,h.cell 2,h.cell 3,h.cell 4,h.cell 5,h.cell 6,h.cell 7,h.cell 8⟩
namespace Mx
end Mx
namespace Mx
def Upd.msgs (u:Upd):List Fr:=(bU u.al).dropLast.map (fun c=>⟨0,c,0,[]⟩)++[⟨1,(bU u.al).getLast?.getD [],(bH u.qs).length,flat (bH u.qs)⟩]
theorem Upd.gQ (u:Upd):u.al.length=u.qs.length+2:=by simp[Upd.al]
theorem Upd.kD (u:Upd):u.msgs.length=(u.qs.length+10)/9:=by
 unfold Upd.msgs;rw[Ge,List.length_map,List.length_dropLast,iL,u.gQ];simp only[List.length_singleton];omega
theorem Upd.uS (u:Upd):u.msgs≠[]:=by unfold Upd.msgs;simp
theorem Upd.lH {u:Upd} (h:u.qs.length≤32):u.msgs.length≤4:=by rw[u.kD];omega
theorem Upd.pR (u:Upd):(u.msgs.map Fr.al).flatten=u.al:=by
 have hne:bU u.al≠[]:=by
  intro e;have h1:=iL u.al;rw[e,u.gQ] at h1;simp at h1;omega
 have h:=tP u.al;unfold Upd.msgs;rw[List.map_append,List.map_map];have e1:(bU u.al).dropLast.map (Fr.al ∘ fun c=>(⟨0,c,0,[]⟩:Fr))=(bU u.al).dropLast:=by
  rw[show(Fr.al ∘ fun c=>(⟨0,c,0,[]⟩:Fr))=id from rfl,List.map_id]
 rw[e1,List.map_singleton,List.getLast?_eq_some_getLast hne,Option.getD_some,List.dropLast_concat_getLast hne];exact h
theorem jO {l:List Int} {c:List Int} (h:c∈bU l):c.length≤9:=by
 unfold bU at h;obtain⟨i,_,rfl⟩:=List.mem_map.mp h;rw[Gk];omega
theorem Upd.pQ {u:Upd} {f:Fr} (h:f∈u.msgs):f.al.length≤9:=by
 unfold Upd.msgs at h;rcases List.mem_append.mp h with h|h
 ·obtain⟨c,hc,rfl⟩:=List.mem_map.mp h
  exact jO ((List.dropLast_sublist _).subset hc)
 ·rw[List.mem_singleton.mp h]
  simp only;cases e:(bU u.al).getLast? with
  | none => simp
  | some c => exact jO (List.mem_of_getLast? e)
theorem Upd.pS {u:Upd} {i:Nat} {f:Fr} (h:u.msgs[i]?=some f) (hi:i+1<u.msgs.length):f.kind=0∧f.nb=0∧f.bs=[]:=by
 unfold Upd.msgs at h hi;rw[Ge,List.length_singleton] at hi;rw[Gm (by omega),List.getElem?_map] at h;cases e:(bU u.al).dropLast[i]? with
 | none => rw [e] at h; simp at h
 | some c =>
  rw[e] at h;simp at h;subst h;exact⟨rfl,rfl,rfl⟩
theorem Upd.pP {u:Upd} {i:Nat} {f:Fr} (h:u.msgs[i]?=some f) (hi:i+1=u.msgs.length):f.kind=1∧f.nb=(bH u.qs).length∧f.bs=flat (bH u.qs):=by
 unfold Upd.msgs at h hi;rw[Ge,List.length_singleton] at hi;rw[Gl (by omega),show i-((bU u.al).dropLast.map (fun c=>(⟨0,c,0,[]⟩:Fr))).length=0 by omega] at h;simp at h;subst h;exact⟨rfl,rfl,rfl⟩
end Mx
end Go.Proofs.YtbicgjafjjihdaaGreatDoor
