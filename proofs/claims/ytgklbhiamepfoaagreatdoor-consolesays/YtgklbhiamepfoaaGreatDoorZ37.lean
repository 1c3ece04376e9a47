import Derived.Test.YtgklbhiamepfoaaGreatDoorZ36
set_option maxHeartbeats 16000000
set_option maxRecDepth 100000
namespace Go.Proofs.YtgklbhiamepfoaaGreatDoor
open Go.Proofs.Tryz Mx
variable {n g k m c j:Nat}{Z:ByteArray}{X:List De}{W:List ByteArray}{w v:World}{V:Array Value}
open Go.RowKit
theorem NO(h:wds.findIdx? (λx=>x.1==Z.data.toList)=k):k<12/\Z=⟨(wds.getD k ([],0)).1.toArray⟩:=by
 obtain⟨h1,h2,-⟩:=TY.1 h;refine⟨h1,?_⟩;rw[Oy,Ox h1];have a:=eq_of_beq h2;apply ByteArray.ext;show Z.data=(wds[k].1).toArray;rw[a]
theorem rc0(q:Z=⟨#[110,101,119]⟩)(f:j=1)(p:W.length=j)(H:Rw w v g n X k m (Z::W))(hs:V.size=230)(h0:V[0]?=(g,0))(h1:V[1]?=(k,m,j+1,c))(o:V[6]?=Zb (j:Int)):
 aA Tryz.f14 (λe a=>RlP w g (cmd n X 0 ((W.map tx).getD 0 []) ((W.map tx).getD 1 [])) e a) 4 ⟨V,[]⟩ v:=by
 subst q f
 match W,p with
 |[s],_=>
  refine jj (Y H) (by rw[ByteArray.toList_eq];rfl) (by decide) (OJ _) (Y ?_) (Y ?_) hs h0 h1 o
  ·intro b e a h;show RlP w g (cmd n X 0 (tx s) []) e a;rw[show cmd n X 0 (tx s) []=⟨3,[],n,X⟩ by unfold cmd;rw[(eR b).1]];exact h
  ·intro b a h V R B t u hs h0 h1 l i;have r:=gh (tx s);refine M9 (Y R) (Y B) ⟨by omega,by omega⟩ (by omega) (Y ?_) hs h0 h1 l i;intro e a h;show RlP w g (cmd n X 0 (tx s) []) e a;rw[show cmd n X 0 (tx s) []=if(bZ (tx s):Int)<1\/32<(bZ (tx s):Int) then⟨1,[],n,X⟩ else⟨0,[111,107],(bZ (tx s):Int).toNat,[]⟩ by
    unfold cmd;rw[eX b];show(if bZ (tx s)<1\/32<bZ (tx s) then _ else _)=_
    by_cases d:bZ (tx s)<1\/32<bZ (tx s)
    ·rw[UY d,UY (by omega)]
    ·rw[UX d,UX (by omega),m6]]
   exact h
theorem rc1(r:Z=⟨#[119,114,105,116,101]⟩)(f:j=2)(p:W.length=j)(H:Rw w v g n X k m (Z::W))(hs:V.size=230)(h0:V[0]?=(g,0))(h1:V[1]?=(k,m,j+1,c))(l:V[6]?=Zb (j:Int)):
 aA Tryz.f14 (λe a=>RlP w g (cmd n X 1 ((W.map tx).getD 0 []) ((W.map tx).getD 1 [])) e a) 4 ⟨V,[]⟩ v:=by
 subst r f
 match W,p with
 |[x1,s],_=>
  refine jj (Y H) (by rw[ByteArray.toList_eq];rfl) (by decide) (by omega) (Y ?_) (Y ?_) hs h0 h1 l
  ·intro b e a h;show RlP w g (cmd n X 1 (tx x1) (tx s)) e a;rw[show cmd n X 1 (tx x1) (tx s)=⟨3,[],n,X⟩ by unfold cmd;rw[(eR b).1];cases blk (tx s)<;>rfl];exact h
  ·intro b a h V R B o q hs h0 h1 i u;have t:=gh (tx x1);refine Jk (Y R) (Y B) o q ⟨by omega,by omega⟩ rfl (Y ?_) (Y ?_) hs h0 h1 i
   ·intro d e a h;show RlP w g (cmd n X 1 (tx x1) (tx s)) e a;rw[show cmd n X 1 (tx x1) (tx s)=⟨3,[],n,X⟩ by unfold cmd;rw[eX b,(vm d).1];rfl];exact h
   ·intro d e a h;show RlP w g (cmd n X 1 (tx x1) (tx s)) e a;rw[show cmd n X 1 (tx x1) (tx s)=aS n X ⟨0,(bZ (tx x1):Int),0,fG (tx s)⟩ by unfold cmd;rw[eX b,yU d];rfl];exact h
theorem rc2(q:Z=⟨#[116,114,105,109]⟩)(d:j=1)(o:W.length=j)(H:Rw w v g n X k m (Z::W))(hs:V.size=230)(h0:V[0]?=(g,0))(h1:V[1]?=(k,m,j+1,c))(i:V[6]?=Zb (j:Int)):
 aA Tryz.f14 (λe a=>RlP w g (cmd n X 2 ((W.map tx).getD 0 []) ((W.map tx).getD 1 [])) e a) 4 ⟨V,[]⟩ v:=by
 subst q d
 match W,o with
 |[s],_=>
  refine jj (Y H) (by rw[ByteArray.toList_eq];rfl) (by decide) (OJ _) (Y ?_) (Y ?_) hs h0 h1 i
  ·intro b e a h;show RlP w g (aT n X 1 (tx s)) e a;rw[show aT n X 1 (tx s)=⟨3,[],n,X⟩ by unfold aT;rw[(eR b).1]];exact h
  ·intro b a h V R B l p hs h0 h1 f r;refine Ls (Y R) (Y B) l p (De.okN 1 _ (gh _) zB bW) (by omega) (Y ?_) hs h0 h1 f;intro e a h;show RlP w g (aT n X 1 (tx s)) e a;rw[show aT n X 1 (tx s)=aS n X ⟨1,(bZ (tx s):Int),0,zB⟩ by unfold aT;rw[eX b]];exact h
theorem rc3(q:Z=⟨#[114,101,97,100]⟩)(d:j=1)(o:W.length=j)(H:Rw w v g n X k m (Z::W))(hs:V.size=230)(h0:V[0]?=(g,0))(h1:V[1]?=(k,m,j+1,c))(i:V[6]?=Zb (j:Int)):
 aA Tryz.f14 (λe a=>RlP w g (cmd n X 3 ((W.map tx).getD 0 []) ((W.map tx).getD 1 [])) e a) 4 ⟨V,[]⟩ v:=by
 subst q d
 match W,o with
 |[s],_=>
  refine jj (Y H) (by rw[ByteArray.toList_eq];rfl) (by decide) (OJ _) (Y ?_) (Y ?_) hs h0 h1 i
  ·intro b e a h;show RlP w g (aT n X 2 (tx s)) e a;rw[show aT n X 2 (tx s)=⟨3,[],n,X⟩ by unfold aT;rw[(eR b).1]];exact h
  ·intro b a h V R B l p hs h0 h1 f r;refine Lq (Y R) (Y B) l p (De.okN 2 _ (gh _) zB bW) (by omega) (Y ?_) hs h0 h1 f;intro e a h;show RlP w g (aT n X 2 (tx s)) e a;rw[show aT n X 2 (tx s)=aS n X ⟨2,(bZ (tx s):Int),0,zB⟩ by unfold aT;rw[eX b]];exact h
theorem rc4(p:Z=⟨#[98,97,114,114,105,101,114]⟩)(i:j=0)(l:W.length=j)(H:Rw w v g n X k m (Z::W))(hs:V.size=230)(h0:V[0]?=(g,0))(h1:V[1]?=(k,m,j+1,c))(d:V[6]?=Zb (j:Int)):
 aA Tryz.f14 (λe a=>RlP w g (cmd n X 4 ((W.map tx).getD 0 []) ((W.map tx).getD 1 [])) e a) 4 ⟨V,[]⟩ v:=by
 subst p i
 match W,l with
 |[],_=>
  refine lZ (Y H) (Or.inl rfl) (by omega) (Y ?_) hs h0 h1 d;intro a h V R B f o hs h0 h1 b;exact Cm (v:=0) (Y R) (Y B) f o (De.okN 3 0 (by decide) zB bW) (by omega) (Y (λe a h=>h)) hs h0 h1 b
theorem rc5(p:Z=⟨#[116,105,99,107]⟩)(i:j=0)(l:W.length=j)(H:Rw w v g n X k m (Z::W))(hs:V.size=230)(h0:V[0]?=(g,0))(h1:V[1]?=(k,m,j+1,c))(d:V[6]?=Zb (j:Int)):
 aA Tryz.f14 (λe a=>RlP w g (cmd n X 5 ((W.map tx).getD 0 []) ((W.map tx).getD 1 [])) e a) 4 ⟨V,[]⟩ v:=by
 subst p i
 match W,l with
 |[],_=>
  refine lZ (Y H) (Or.inl rfl) (by omega) (Y ?_) hs h0 h1 d;intro a h V R B f o hs h0 h1 b;exact Lr (v:=0) (Y R) (Y B) f o (De.okN 4 0 (by decide) zB bW) (by omega) (Y (λe a h=>h)) hs h0 h1 b
theorem rc6(q:Z=⟨#[100,101,108,105,118,101,114]⟩)(d:j=1)(o:W.length=j)(H:Rw w v g n X k m (Z::W))(hs:V.size=230)(h0:V[0]?=(g,0))(h1:V[1]?=(k,m,j+1,c))(i:V[6]?=Zb (j:Int)):
 aA Tryz.f14 (λe a=>RlP w g (cmd n X 6 ((W.map tx).getD 0 []) ((W.map tx).getD 1 [])) e a) 4 ⟨V,[]⟩ v:=by
 subst q d
 match W,o with
 |[s],_=>
  refine jj (Y H) (by rw[ByteArray.toList_eq];rfl) (by decide) (OJ _) (Y ?_) (Y ?_) hs h0 h1 i
  ·intro b e a h;show RlP w g (aT n X 5 (tx s)) e a;rw[show aT n X 5 (tx s)=⟨3,[],n,X⟩ by unfold aT;rw[(eR b).1]];exact h
  ·intro b a h V R B l p hs h0 h1 f r;refine Co (Y R) (Y B) l p (De.okN 5 _ (gh _) zB bW) (by omega) (Y ?_) hs h0 h1 f;intro e a h;show RlP w g (aT n X 5 (tx s)) e a;rw[show aT n X 5 (tx s)=aS n X ⟨5,(bZ (tx s):Int),0,zB⟩ by unfold aT;rw[eX b]];exact h
theorem rc7(q:Z=⟨#[108,111,115,101]⟩)(d:j=1)(o:W.length=j)(H:Rw w v g n X k m (Z::W))(hs:V.size=230)(h0:V[0]?=(g,0))(h1:V[1]?=(k,m,j+1,c))(i:V[6]?=Zb (j:Int)):
 aA Tryz.f14 (λe a=>RlP w g (cmd n X 7 ((W.map tx).getD 0 []) ((W.map tx).getD 1 [])) e a) 4 ⟨V,[]⟩ v:=by
 subst q d
 match W,o with
 |[s],_=>
  refine jj (Y H) (by rw[ByteArray.toList_eq];rfl) (by decide) (OJ _) (Y ?_) (Y ?_) hs h0 h1 i
  ·intro b e a h;show RlP w g (aT n X 6 (tx s)) e a;rw[show aT n X 6 (tx s)=⟨3,[],n,X⟩ by unfold aT;rw[(eR b).1]];exact h
  ·intro b a h V R B l p hs h0 h1 f r;refine Lo (Y R) (Y B) l p (De.okN 6 _ (gh _) zB bW) (by omega) (Y ?_) hs h0 h1 f;intro e a h;show RlP w g (aT n X 6 (tx s)) e a;rw[show aT n X 6 (tx s)=aS n X ⟨6,(bZ (tx s):Int),0,zB⟩ by unfold aT;rw[eX b]];exact h
theorem rc8(q:Z=⟨#[100,111,117,98,108,101]⟩)(d:j=1)(o:W.length=j)(H:Rw w v g n X k m (Z::W))(hs:V.size=230)(h0:V[0]?=(g,0))(h1:V[1]?=(k,m,j+1,c))(i:V[6]?=Zb (j:Int)):
 aA Tryz.f14 (λe a=>RlP w g (cmd n X 8 ((W.map tx).getD 0 []) ((W.map tx).getD 1 [])) e a) 4 ⟨V,[]⟩ v:=by
 subst q d
 match W,o with
 |[s],_=>
  refine jj (Y H) (by rw[ByteArray.toList_eq];rfl) (by decide) (OJ _) (Y ?_) (Y ?_) hs h0 h1 i
  ·intro b e a h;show RlP w g (aT n X 7 (tx s)) e a;rw[show aT n X 7 (tx s)=⟨3,[],n,X⟩ by unfold aT;rw[(eR b).1]];exact h
  ·intro b a h V R B l p hs h0 h1 f r;refine FY (Y R) (Y B) l p (De.okN 7 _ (gh _) zB bW) (by omega) (Y ?_) hs h0 h1 f;intro e a h;show RlP w g (aT n X 7 (tx s)) e a;rw[show aT n X 7 (tx s)=aS n X ⟨7,(bZ (tx s):Int),0,zB⟩ by unfold aT;rw[eX b]];exact h
theorem rc9(p:Z=⟨#[99,114,97,115,104]⟩)(i:j=1)(l:W.length=j)(H:Rw w v g n X k m (Z::W))(hs:V.size=230)(h0:V[0]?=(g,0))(h1:V[1]?=(k,m,j+1,c))(d:V[6]?=Zb (j:Int)):
 aA Tryz.f14 (λe a=>RlP w g (cmd n X 9 ((W.map tx).getD 0 []) ((W.map tx).getD 1 [])) e a) 4 ⟨V,[]⟩ v:=by
 subst p i
 match W,l with
 |[s],_=>
  refine lZ (Y H) (Or.inr (by rw[ByteArray.toList_eq];rfl)) (by omega) (Y ?_) hs h0 h1 d;intro a h V R B f o hs h0 h1 b;exact Jj (Y R) (Y B) f o rfl (Y (λe a h=>h)) hs h0 h1 b
theorem Ol(l:Z=⟨#[115,101,116,116,108,101]⟩)(f:j=0)(i:W.length=j)(H:Rw w v g n X k m (Z::W))(hs:V.size=230)(h0:V[0]?=(g,0))(h1:V[1]?=(k,m,j+1,c))(d:V[6]?=Zb (j:Int)):
 aA Tryz.f14 (λe a=>RlP w g (cmd n X 10 ((W.map tx).getD 0 []) ((W.map tx).getD 1 [])) e a) 4 ⟨V,[]⟩ v:=by
 subst l f
 match W,i with
 |[],_=>
  refine lZ (Y H) (Or.inl rfl) (by omega) (Y ?_) hs h0 h1 d;intro a h V R B o p hs h0 h1 b;exact FZ (Y R) (by omega) (Y (λe a h=>h)) hs h0 h1 b
theorem Om(l:Z=⟨#[112,108,97,110]⟩)(f:j=0)(i:W.length=j)(H:Rw w v g n X k m (Z::W))(hs:V.size=230)(h0:V[0]?=(g,0))(h1:V[1]?=(k,m,j+1,c))(d:V[6]?=Zb (j:Int)):
 aA Tryz.f14 (λe a=>RlP w g (cmd n X 11 ((W.map tx).getD 0 []) ((W.map tx).getD 1 [])) e a) 4 ⟨V,[]⟩ v:=by
 subst l f
 match W,i with
 |[],_=>
  refine lZ (Y H) (Or.inl rfl) (by omega) (Y ?_) hs h0 h1 d;intro a h V R B o p hs h0 h1 b;exact Lp (Y R) (by omega) (Y (λe a h=>h)) hs h0 h1 b
theorem Fz{c:Nat}(u:W≠[])(s:∀x∈W,x.size<=5000)(p:W.length<=6000)(H:Rw w w g n X k m W):
 Calls prog 14 #[(g,0),(k,m,W.length,c)] w λl o=>RlP w g (fP n X (W.map tx)) l o:=by
 obtain⟨e,r,rfl⟩:∃e r,W=e::r:=by
  cases W with
  |nil=>exact absurd rfl u
  |cons q r=>exact⟨q,r,rfl⟩
 have j:fP n X ((e::r).map tx)=match wds.findIdx? (λx=>x.1==e.data.toList) with
  |some f=>if r.length+1=(wds.getD f ([],0)).2+1 then cmd n X f ((r.map tx).getD 0 []) ((r.map tx).getD 1 []) else⟨0,[98,97,100],n,X⟩
  |none=>⟨0,[98,97,100],n,X⟩:=by
  unfold fP;rw[pm];rfl
 refine Lg (Q:=r.length) (Y H) (s e li) (by simp at p;omega) (Y ?_) (Y ?_)
 ·intro i l o t;rw[show fP n X ((e::r).map tx)=⟨0,[98,97,100],n,X⟩ by
   rw[j];cases h:wds.findIdx? (λx=>x.1==e.data.toList) with
   |none=>rfl
   |some f=>exact UX (λl=>i f h (by omega))]
  exact t
 ·intro f h a v V R hs h0 h1 b;rw[show fP n X ((e::r).map tx)=cmd n X f ((r.map tx).getD 0 []) ((r.map tx).getD 1 []) by
   rw[j,h];exact UY (by omega)]
  have⟨i,d⟩:=NO h;clear h j
  match f,i with
  |0,_=>exact rc0 d a rfl R hs h0 h1 b
  |1,_=>exact rc1 d a rfl R hs h0 h1 b
  |2,_=>exact rc2 d a rfl R hs h0 h1 b
  |3,_=>exact rc3 d a rfl R hs h0 h1 b
  |4,_=>exact rc4 d a rfl R hs h0 h1 b
  |5,_=>exact rc5 d a rfl R hs h0 h1 b
  |6,_=>exact rc6 d a rfl R hs h0 h1 b
  |7,_=>exact rc7 d a rfl R hs h0 h1 b
  |8,_=>exact rc8 d a rfl R hs h0 h1 b
  |9,_=>exact rc9 d a rfl R hs h0 h1 b
  |10,_=>exact Ol d a rfl R hs h0 h1 b
  |11,_=>exact Om d a rfl R hs h0 h1 b
