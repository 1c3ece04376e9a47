/- Part. -/
import Derived.Test.YtbicgjafjjihdaaGreatZ47
import Derived.Test.YtbicgjafjjihdaaGreatZ50
set_option maxHeartbeats 16000000
set_option maxRecDepth 100000
namespace Go.Proofs.YtbicgjafjjihdaaGreat
section
open Go.ChangeShapes Go.WideShapes Go.ChangeAt Go.RowKit
variable {H:Type} {W:World} {fuel:Nat}
theorem Tryz.cells39:Tryz.prog.cellsOf 39=11:=by kernel_rfl
theorem Tryz.fieldsDe : (Tryz.prog.fieldsOf 39).toList.map (fun f => (f.name, f.type, f.offset)) = [("Kind", 3, 0), ("At", 3, 1), ("From", 3, 2), ("Data", 25, 3)] := by kernel_rfl
theorem Tryz.underDe:Tryz.prog.underlying 39=some (.struct (Tryz.prog.fieldsOf 39)):=by kernel_rfl
theorem yy:∃ f0 f1 f2 f3:Field,Tryz.prog.underlying 39=some (.struct #[f0,f1,f2,f3])∧(f0.type=3∧f0.offset=0)∧(f1.type=3∧f1.offset=1)∧(f2.type=3∧f2.offset=2)∧f3.type=25∧f3.offset=3:=by
 obtain⟨f0,f1,f2,f3,hfs,g0,g1,g2,g3⟩:=tH Tryz.fieldsDe;simp only[Prod.mk.injEq] at g0 g1 g2 g3;refine⟨f0,f1,f2,f3,?_,g0.2,g1.2,g2.2,g3.2⟩;have key:∀ (a:Array Field),a.toList=[f0,f1,f2,f3]→a=#[f0,f1,f2,f3]:=fun a h=>Array.ext' h
 rw[Tryz.underDe,key _ hfs]
theorem Ew:De.ok ⟨0,0,0,zB⟩:=⟨by show(-9223372036854775808:Int)≤0;omega,by show(0:Int)≤_;omega,by show(-9223372036854775808:Int)≤0;omega,by show(0:Int)≤_;omega,Mx.j4⟩
instance:Inhabited {y:De // y.ok}:=⟨⟨⟨0,0,0,zB⟩,Ew⟩⟩
theorem Dt {enc:TypeId × Value→H} {cs:List Value} {x:DataW H × List MemPlace} (h:DataW.trod enc Tryz.prog W 0 (fun _=>true) true fuel 39 cs=some x) :
 ∃ y:De,y.ok∧∀ (j:Nat) (u:Value),y.cs[j]?=some u→cs[j]?=some u:=by
 obtain⟨f0,f1,f2,f3,hu,⟨ht0,ho0⟩,⟨ht1,ho1⟩,⟨ht2,ho2⟩,ht3,ho3⟩:=yy;obtain⟨y0,y1,y2,y3,n,_,hl,h0,h1,h2,h3⟩:=Joins.trod_struct4 hu h;rw[Tryz.cells39] at hl;rw[ht0,ho0,Tryz.cells3] at h0;rw[ht1,ho1,Tryz.cells3] at h1;rw[ht2,ho2,Tryz.cells3] at h2;rw[ht3,ho3,Tryz.cells25] at h3;obtain⟨k0,hk0,_,_⟩:=DataW.trod_int Tryz.underlying3 h0;obtain⟨k1,hk1,_,w1⟩:=DataW.trod_int Tryz.underlying3 h1;obtain⟨k2,hk2,_,w2⟩:=DataW.trod_int Tryz.underlying3 h2;have e:=od h3;obtain⟨_,y,hy⟩:=Cf h3;have hb:∀ (j:Nat) (z:Int),j<8→y.cs[j]?=some (.int .u8 z)→0≤z∧z≤255:=by
  intro j z hj hz;obtain⟨z',h1,h2,h3⟩:=e j hj;have h4:=hy j _ hz;rw[h1] at h4;cases h4
  exact⟨h2,h3⟩
 have one:∀ (o:Nat) (k:Int),(cs.drop o).take 1=[.int .i64 k]→cs[o]?=some (.int .i64 k):=by
  intro o k hk;have:=congrArg (fun l=>l[0]?) hk;simpa using this
 have b1:=bounds_i64 w1;have b2:=bounds_i64 w2;refine⟨⟨k0,k1,k2,y⟩,⟨b1.1,b1.2,b2.1,b2.2,⟨hb 0 _ (by omega) rfl,hb 1 _ (by omega) rfl,hb 2 _ (by omega) rfl,hb 3 _ (by omega) rfl,hb 4 _ (by omega) rfl,hb 5 _ (by omega) rfl,hb 6 _ (by omega) rfl,hb 7 _ (by omega) rfl⟩⟩,fun j u hj=>?_⟩
 match j,hj with
 | 0, hj =>
  simp[De.cs] at hj;subst hj;exact one 0 k0 hk0
 | 1, hj =>
  simp[De.cs] at hj;subst hj;exact one 1 k1 hk1
 | 2, hj =>
  simp[De.cs] at hj;subst hj;exact one 2 k2 hk2
 | j + 3, hj =>
  have h4:=hy j u (by simpa [De.cs,B8.cs] using hj);have hj8:j<8:=by
   have:=(Fp.1 hj).1;simp[De.cs] at this;omega
  rw[List.getElem?_take_of_lt hj8,List.getElem?_drop,Nat.add_comm] at h4;exact h4
theorem CU {enc:TypeId × Value→H} {v:Value} {x:DataW H × List MemPlace} (h:DataW.trod enc Tryz.prog W 0 (fun _=>true) true fuel 22 [v]=some x) :
 ∃ a len cap l,v=.slice a len cap∧DL W a len l:=by
 rcases Deep.open_slice Tryz.underlying22 h with ⟨hcs,_⟩|⟨x,len,cap,m,n,D,Pl,hcs,_,hl,hm,hmm,_,hcell⟩
 ·simp at hcs
  exact⟨none,0,0,[],hcs,rfl,fun x hx=>by simp at hx,fun h=>absurd h (by omega)⟩
 ·simp at hcs hmm
  obtain⟨l,h1,h2⟩:=yt (W:=W) (fun y:{y:De // y.ok}=>y.1.cs) 11 (fun _=>rfl) (by omega) (x:=x) (len:=len) (by omega) (fun i hi=>by
   obtain⟨cs',h1,h2⟩:=hcell i (by omega);rw[Tryz.cells39] at h1;obtain⟨y,hok,hy⟩:=Dt h2;refine⟨⟨y,hok⟩,fun j u hj=>?_⟩;have hj9:j<11:=(Fp.1 hj).1;have:=(World.cells?_some h1).2.2 j hj9;rw[Deep.add_add] at this;rw[this];exact hy j u hj)
  refine⟨some x,len,cap,l.map (·.1),hcs,by rw[List.length_map];exact h1,fun y hy=>?_,fun h0=>?_⟩
  ·obtain⟨z,_,rfl⟩:=List.mem_map.1 hy
   exact z.2
  ·obtain⟨b,off,ha,hlt,hc⟩:=h2.2.2 h0
   refine⟨b,off,ha,hlt,fun i y hy j u hu=>?_⟩;rw[List.getElem?_map] at hy;cases e:l[i]? with
   | none => rw [e] at hy; simp at hy
   | some z =>
    rw[e] at hy;simp at hy;subst hy;have hj9:j<11:=(Fp.1 hu).1;rw[show off+i*11+j=off+(i*11+j) by omega];refine hc (i*11+j) u ?_;have hi:=(Fp.1 e).1;have e2:l=l.take i++z::l.drop (i+1):=by
     conv=>lhs;rw[←List.take_append_drop i l,List.drop_eq_getElem_cons hi]
     rw[Fg hi] at e;rw[Fo e]
    rw[e2,List.flatMap_append,List.flatMap_cons];have hlen:((l.take i).flatMap fun y:{y:De // y.ok}=>y.1.cs).length=i*11:=by
     rw[fa (fun y:{y:De // y.ok}=>y.1.cs) 11 (fun _=>rfl),Fu,Nat.min_eq_left (by omega)]
    rw[Fv (by omega),hlen,show i*11+j-i*11=j by omega,Fw (by exact hj9)];exact hu
end
end Go.Proofs.YtbicgjafjjihdaaGreat
