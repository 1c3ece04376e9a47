import Derived.Test.YtgklbhiamepfoaaGreatDoorZ4
set_option maxHeartbeats 16000000
set_option maxRecDepth 100000
namespace Go.Proofs.YtgklbhiamepfoaaGreatDoor
open Go.Proofs.Tryz Mx
variable {n:Nat}{l L:List Int}{Z:TypeId}
open Go.RowKit
theorem Gf(b:l.length=n)(a:L.length=n):((List.range n).all λi=>l.getD i 0==L.getD i 0)=decide (l=L):=by
 rw[Bool.eq_iff_iff];simp only[Nm,IR,beq_iff_eq,UP];constructor
 ·intro h;apply List.ext_getElem (by omega);intro i h1 h2;have:=h i (by omega);rw[Oy,Oy,Ox h1,Ox h2] at this;simpa using this
 ·rintro rfl i _;rfl
section
variable {P:Program}(w:World)
theorem oV(e:Nat)(d:P.underlying Z=some (.int .u8))(a b:List Int)(c:List Nat)(h:∀i∈c,i<a.length/\i<b.length):
 (Op.eqItems (e+1) Z 1 (a.map (Value.int .u8)).toArray (b.map (Value.int .u8)).toArray c).run P w=.ok (c.all λi=>a.getD i 0==b.getD i 0) w:=by
 induction c with
 |nil=>simp[Op.eqItems]
 |cons i c k=>
  have⟨h1,h2⟩:=h i (by simp);have g:(part Z (a.map (Value.int .u8)).toArray (i*1)).run P w=.ok (Za (a.getD i 0)) w:=by
   simp[part,isAgg,run_underlying d,List.getD_eq_getElem?_getD,List.getElem?_eq_getElem h1]
  have j:(part Z (b.map (Value.int .u8)).toArray (i*1)).run P w=.ok (Za (b.getD i 0)) w:=by
   simp[part,isAgg,run_underlying d,List.getD_eq_getElem?_getD,List.getElem?_eq_getElem h2]
  simp only[Op.eqItems,T7,g,j,T6,run_equalIn_int w e Z .u8 .u8 _ _ d,List.all_cons];cases hb:(a.getD i 0==b.getD i 0)
  ·simp
  ·simp only[Bool.not_true,Bool.false_eq_true,if_false,Bool.true_and];exact k λl f=>h l (by simp[f])
theorem lf(t e:TypeId)(n:Nat)(i:TypeInfo)(f:P.underlying t=some (.array n e))(d:P.underlying e=some (.int .u8))(c:P.info? e=i)(hc:P.cellsOf e=1)(a b:List Int)(g:a.length=n)(h:b.length=n):
 (Op.equal t (.agg (a.map (Value.int .u8)).toArray) (.agg (b.map (Value.int .u8)).toArray)).run P w=.ok (decide (a=b)) w:=by
 unfold Op.equal Op.maxDepth;rw[run_equalIn_array w 9999 _ _ f c,hc,oV w 9998 d a b _ (λi c=>by have:=IR.1 c;omega),Gf g h]
end
theorem Tryz.cellsOf5:prog.cellsOf 5=1:=by kernel_rfl
theorem fj(b c m g k p n f a h i l d e j o:Int)(W:World):
 (Op.equalIn 10000 65 (.agg #[Za b,Za c,Za m,Za g,Za k,Za p,Za n,Za f]) (.agg #[Za a,Za h,Za i,Za l,Za d,Za e,Za j,Za o])).run prog W=.ok (decide ([b,c,m,g,k,p,n,f]=[a,h,i,l,d,e,j,o])) W:=by
 have⟨q,r,_⟩:=info_parts Tryz.info5;exact lf W 65 5 8 q Tryz.underlying65 Tryz.underlying5 r Tryz.cellsOf5 [b,c,m,g,k,p,n,f] [a,h,i,l,d,e,j,o] rfl rfl
