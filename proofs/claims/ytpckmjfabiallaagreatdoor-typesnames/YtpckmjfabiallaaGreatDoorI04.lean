/- Texts of ours, joined. -/
import Derived.Test.YtpckmjfabiallaaGreatDoorI01
import Derived.Lib.AppendIntMem
import Derived.Deep.CutRange
set_option linter.unusedVariables false
set_option linter.unusedSimpArgs false
set_option maxRecDepth 100000
set_option maxHeartbeats 16000000
namespace Go.Proofs.YtpckmjfabiallaaGreatDoor
variable{b i m p sz:Nat}{cs xs:List Value}{v:Value}{w w' w1 w2:World}{x:List UInt8}
open List
open Tryz
section
namespace Px
open Lx (Tok B)
def Ex.k:Ex->Nat
 | .mk k _ _ _ _ _=>k
def Ex.o:Ex->Nat
 | .mk _ o _ _ _ _=>o
instance:Inhabited Ex:=⟨.mk 0 0 0 [] [] 0⟩
def mk4(x:B):Tok:=⟨4,x,0,0⟩
def wd(x:B):Tok:=⟨1,x,0,0⟩
def dgF:Nat->Nat->B
 | 0,_=>[]
 | f+1,n=>if n<10 then [UInt8.ofNat (48+n)] else dgF f (n / 10) ++ [UInt8.ofNat (48+n % 10)]
def dg(n:Nat):B:=dgF (n+1) n
def opL(o:Nat):Nat:=if o=1 then 1 else if o=2 then 2 else if 3<=o/\o<=8 then 3 else if o=9\/o=10 then 4 else if 11<=o/\o<=13 then 5 else 0
def opX(o:Nat):B:=([[],[124,124],[38,38],[61,61],[33,61],[60],[60,61],[62],[62,61],[43],[45],[42],[47],[37]]:List B).getD o []
theorem op_cases{o:Nat}(h1:1<=o)(h2:o<=13):o=1\/o=2\/o=3\/o=4\/o=5\/o=6\/o=7\/o=8\/o=9\/o=10\/o=11\/o=12\/o=13:=by omega
theorem opL_pos{o:Nat}(h1:1<=o)(h2:o<=13):1<=opL o/\opL o<=5:=by
 rcases op_cases h1 h2 with rfl | rfl | rfl | rfl | rfl | rfl | rfl | rfl | rfl | rfl | rfl | rfl | rfl <;> decide
theorem levelOf_cases(t:Tok):levelOf t=(0,0)\/(1<=(levelOf t).2/\(levelOf t).2<=13/\(levelOf t).1=opL (levelOf t).2):=by
 unfold levelOf;by_cases hk:t.kind=4
 case neg=>rw[if_neg hk];exact AI rfl
 rw[if_pos hk];by_cases h0:t.text=[124,124]
 case pos=>rw[if_pos h0];exact AJ (by decide)
 rw[if_neg h0];by_cases h1:t.text=[38,38]
 case pos=>rw[if_pos h1];exact AJ (by decide)
 rw[if_neg h1];by_cases h2:t.text=[61,61]
 case pos=>rw[if_pos h2];exact AJ (by decide)
 rw[if_neg h2];by_cases h3:t.text=[33,61]
 case pos=>rw[if_pos h3];exact AJ (by decide)
 rw[if_neg h3];by_cases h4:t.text=[60]
 case pos=>rw[if_pos h4];exact AJ (by decide)
 rw[if_neg h4];by_cases h5:t.text=[60,61]
 case pos=>rw[if_pos h5];exact AJ (by decide)
 rw[if_neg h5];by_cases h6:t.text=[62]
 case pos=>rw[if_pos h6];exact AJ (by decide)
 rw[if_neg h6];by_cases h7:t.text=[62,61]
 case pos=>rw[if_pos h7];exact AJ (by decide)
 rw[if_neg h7];by_cases h8:t.text=[43]
 case pos=>rw[if_pos h8];exact AJ (by decide)
 rw[if_neg h8];by_cases h9:t.text=[45]
 case pos=>rw[if_pos h9];exact AJ (by decide)
 rw[if_neg h9];by_cases h10:t.text=[42]
 case pos=>rw[if_pos h10];exact AJ (by decide)
 rw[if_neg h10];by_cases h11:t.text=[47]
 case pos=>rw[if_pos h11];exact AJ (by decide)
 rw[if_neg h11];by_cases h12:t.text=[37]
 case pos=>rw[if_pos h12];exact AJ (by decide)
 rw[if_neg h12];exact AI rfl
def lowE(n:Nat)(e:Ex):Bool:=(e.k == 15 && decide (opL e.o<n)) || (decide (6<n) && (e.k == 13 || e.k == 14))
def lv(o:Nat):Nat:=if opL o=3 then 4 else opL o
def within(b:Bool)(l:List Tok):List Tok:=if b then mk4 [40] :: (l ++ [mk4 [41]]) else l
def Bv:List (List Tok)->List Tok
 | []=>[]
 | [a]=>a
 | a :: b :: r=>a ++ mk4 [44] :: Bv (b :: r)
def exK(k o n:Nat)(t:B)(args:List Ex)(aS0:List (List Tok)):List Tok:=
 if k=1 then [⟨2,dg n,n,0⟩] else if k=2 then [wd (if n=1 then [116,114,117,101] else [102,97,108,115,101])] else if k=3 then [⟨3,t,0,0⟩] else if k=6 then [wd t]
 else if k=7 then wd t :: mk4 [40] :: (Bv aS0 ++ [mk4 [41]])
 else if k=12 then within (lowE 7 (args.getD 0 default)) (aS0.getD 0 []) ++ mk4 [91] :: (aS0.getD 1 [] ++ [mk4 [93]])
 else if k=13 then mk4 [45] :: within (lowE 6 (args.getD 0 default)) (aS0.getD 0 [])
 else if k=14 then mk4 [33] :: within (lowE 6 (args.getD 0 default)) (aS0.getD 0 [])
 else within (lowE (lv o) (args.getD 0 default)) (aS0.getD 0 []) ++ mk4 (opX o) :: within (lowE (opL o+1) (args.getD 1 default)) (aS0.getD 1 [])
mutual
def exT:Ex->List Tok
 | .mk k o n t args _=>exK k o n t args (D9 args)
def D9:List Ex->List (List Tok)
 | []=>[]
 | e :: r=>exT e :: D9 r
end
def Fk:List Nat->Nat
 | []=>0
 | a :: r=>max a (Fk r)
def Q8(b:Bool)(d:Nat):Nat:=if b then d+1 else d
def dK(k o:Nat)(args:List Ex)(aS0:List Nat):Nat:=
 if k=7 then 1+Fk aS0
 else if k=12 then max (Q8 (lowE 7 (args.getD 0 default)) (aS0.getD 0 0)) (1+aS0.getD 1 0)
 else if k=13\/k=14 then 1+Q8 (lowE 6 (args.getD 0 default)) (aS0.getD 0 0)
 else if k=15 then max (Q8 (lowE (lv o) (args.getD 0 default)) (aS0.getD 0 0)) (Q8 (lowE (opL o+1) (args.getD 1 default)) (aS0.getD 1 0))
 else 1
mutual
def exD:Ex->Nat
 | .mk k o n t args _=>dK k o args (exDs args)
def exDs:List Ex->List Nat
 | []=>[]
 | e :: r=>exD e :: exDs r
end
theorem Q9:∀l,D9 l=l.map exT
 | []=>by simp[D9]
 | e :: r=>by simp[D9,Q9 r]
theorem Ra:∀l,exDs l=l.map exD
 | []=>by simp[exDs]
 | e :: r=>by simp[exDs,Ra r]
def wT(n:Nat)(e:Ex):List Tok:=within (lowE n e) (exT e)
def wD(n:Nat)(e:Ex):Nat:=Q8 (lowE n e) (exD e)
theorem At5(o n:Nat)(t:B)(a b:Ex)(p:Nat):exT (.mk 12 o n t [a,b] p)=wT 7 a ++ mk4 [91] :: (exT b ++ [mk4 [93]]):=by simp[exT,exK,D9,wT]
theorem Am4(o n:Nat)(t:B)(a:Ex)(p:Nat):exT (.mk 13 o n t [a] p)=mk4 [45] :: wT 6 a:=by simp[exT,exK,D9,wT]
theorem Am5(o n:Nat)(t:B)(a:Ex)(p:Nat):exT (.mk 14 o n t [a] p)=mk4 [33] :: wT 6 a:=by simp[exT,exK,D9,wT]
theorem Am6(o n:Nat)(t:B)(a b:Ex)(p:Nat):exT (.mk 15 o n t [a,b] p)=wT (lv o) a ++ mk4 (opX o) :: wT (opL o+1) b:=by simp[exT,exK,D9,wT]
theorem Z7(o n:Nat)(t:B)(a:List Ex)(p:Nat):exT (.mk 7 o n t a p)=wd t :: mk4 [40] :: (Bv (a.map exT) ++ [mk4 [41]]):=by simp[exT,exK,Q9]
theorem At6(o n:Nat)(t:B)(a b:Ex)(p:Nat):exD (.mk 12 o n t [a,b] p)=max (wD 7 a) (1+exD b):=by simp[exD,dK,exDs,wD]
theorem Z8(k o n:Nat)(t:B)(a:Ex)(p:Nat)(hk:k=13\/k=14):exD (.mk k o n t [a] p)=1+wD 6 a:=by
 rcases hk with rfl | rfl <;> simp[exD,dK,exDs,wD]
theorem Am7(o n:Nat)(t:B)(a b:Ex)(p:Nat):exD (.mk 15 o n t [a,b] p)=max (wD (lv o) a) (wD (opL o+1) b):=by simp[exD,dK,exDs,wD]
theorem Z9(o n:Nat)(t:B)(a:List Ex)(p:Nat):exD (.mk 7 o n t a p)=1+Fk (a.map exD):=by simp[exD,dK,Ra]
def G9(V:Nat->B->Nat->Prop)(k o n:Nat)(t:B)(len:Nat):Prop:=
 (k=1/\o=0/\t=[]/\len=0/\∃x,V 2 x n)\/(k=2/\o=0/\t=[]/\len=0/\n<=1)\/(k=3/\o=0/\n=0/\len=0/\V 3 t 0)\/(k=6/\o=0/\n=0/\len=0/\reserved t=false/\V 1 t 0)\/(k=7/\o=0/\n=0/\reserved t=false/\V 1 t 0) \/
 (k=12/\o=0/\n=0/\t=[]/\len=2)\/((k=13\/k=14)/\o=0/\n=0/\t=[]/\len=1)\/(k=15/\1<=o/\o<=13/\n=0/\t=[]/\len=2)
mutual
def WfE(V:Nat->B->Nat->Prop):Ex->Prop
 | .mk k o n t args _=>G9 V k o n t args.length/\WfEs V args
def WfEs(V:Nat->B->Nat->Prop):List Ex->Prop
 | []=>True
 | e :: r=>WfE V e/\WfEs V r
end
theorem WfEs_all{V:Nat->B->Nat->Prop}:∀{l:List Ex},WfEs V l↔∀e∈l,WfE V e
 | []=>by simp[WfEs]
 | e :: r=>by simp[WfEs,WfEs_all (l:=r)]
def AllV(V:Nat->B->Nat->Prop)(l:List Tok):Prop:=∀t∈l,(t.kind=1->V 1 t.text 0)/\(t.kind=2->V 2 t.text t.num)/\(t.kind=3->V 3 t.text 0)
theorem AllV.suf{V:Nat->B->Nat->Prop}{l l':List Tok}(h:AllV V l)(s:l' <:+ l):AllV V l':=λ t ht=>h t (s.subset ht)
theorem Nh{n:Nat}{e:Ex}(h:m<=n)(hl:lowE m e=true):lowE n e=true:=by
 simp only[lowE,Bool.or_eq_true,Bool.and_eq_true,decide_eq_true_eq,beq_iff_eq] at hl ⊢;rcases hl with h1 | h1
 .exact AI ⟨h1.1,by omega⟩
 .exact AJ ⟨by omega,h1.2⟩
theorem within_len(b:Bool)(l:List Tok):(within b l).length=l.length+(if b then 2 else 0):=by
 cases b <;> simp[within]
theorem O9{n:Nat}{e:Ex}(h:m<=n):(wT m e).length<=(wT n e).length:=by
 simp only[wT,within_len];rcases h1:lowE m e with _ | _
 .simp
 .rw[Nh h h1];simp
theorem Pa{n:Nat}{e:Ex}(h:m<=n):wD m e<=wD n e:=by
 simp only[wD,Q8];rcases h1:lowE m e with _ | _
 .simp;split <;> omega
 .rw[Nh h h1];simp
theorem Ay5(n:Nat)(e:Ex):(wT n e).length<=(exT e).length+2:=by
 simp only[wT,within_len];split <;> omega
theorem Ay6(n:Nat)(e:Ex):wD n e<=exD e+1:=by simp only[wD,Q8];split <;> omega
theorem Ed{n:Nat}{e:Ex}(h:lowE n e=false):wT n e=exT e:=by simp[wT,h,within]
theorem Ee{n:Nat}{e:Ex}(h:lowE n e=false):wD n e=exD e:=by simp[wD,h,Q8]
def Sm(V:Nat->B->Nat->Prop)(n k:Nat)(q:P Ex):Prop:=∀l e l',AllV V l->q l=.inl (e,l')->WfE V e/\wD n e<=k/\(wT n e).length+l'.length<=l.length/\l' <:+ l
theorem bind_some{α β:Type}{r:R α}{f:α->List Tok->R β}{y:β}{l':List Tok}(h:bind r f=.inl (y,l')):∃x l,r=.inl (x,l)/\f x l=.inl (y,l'):=by
 match r,h with
 | .inl (x,l),h=>exact⟨x,l,rfl,h⟩
 | .inr e,h=>simp[bind] at h
theorem Ho{k:Nat}{x:B}{l l':List Tok}{u:Unit}(h:needK k x l=.inl (u,l')):∃t,l=t :: l'/\t.kind=k/\t.text=x:=by
 unfold needK at h;split at h
 .rename_i hs;obtain⟨t,r,rfl,h1,h2⟩:=sees_head hs;simp at h;exact⟨t,by rw[<-h],h1,h2⟩
 .simp[fail] at h
theorem need_some{x:B}{l l':List Tok}{u:Unit}(h:need x l=.inl (u,l')):∃t,l=t :: l':=by
 obtain⟨t,h1,_⟩:=Ho h;exact⟨t,h1⟩
theorem Do{l l':List Tok}{t:Tok}(h:name l=.inl (t,l')):l=t :: l'/\t.kind=1/\reserved t.text=false:=by
 unfold name at h;split at h
 .rename_i t2 r;split at h
  .rename_i hh;simp at h;obtain⟨rfl,rfl⟩:=h;exact⟨rfl,hh⟩
  .simp[fail] at h
 .simp[fail] at h
theorem Ay7(o:Nat):lv o<=opL o+1:=by unfold lv;split <;> omega
theorem Rb{V:Nat->B->Nat->Prop}{n k:Nat}{q:P Ex}(hn:1<=n)(hq:Sm V (n+1) k q):∀(f c:Nat) (acc:Ex) (l:List Tok) (e:Ex) (l':List Tok),AllV V l->WfE V acc->(0<c->acc.k=15/\opL acc.o=n) ->
  chain n q f c acc l=.inl (e,l')->(c=0->wD (n+1) acc<=k)->(0<c->exD acc<=k)->WfE V e/\wD n e<=k/\(wT n e).length+l'.length<=(if c=0 then (wT (n+1) acc).length else (exT acc).length)+l.length/\l' <:+ l
 | 0,_,_,_,_,_,_,_,_,h,_,_=>by simp[chain] at h
 | f+1,c,acc,[],e,l',_,_,_,h,_,_=>by simp[chain] at h
 | f+1,c,acc,t :: r,e,l',hV,hw,hc,h,hd0,hd1=>by
  simp only[chain] at h;split at h
  .rename_i hl;split at h
   .simp[fail] at h
   .rename_i h3;obtain⟨x,l1,hx,h⟩:=bind_some h;obtain⟨w1,w2,w3,w4⟩:=hq r x l1 (hV.suf (AE _ _)) hx;obtain⟨o,ho⟩:∃o,o=(levelOf t).2:=⟨_,rfl⟩;have a4:1<=o/\o<=13/\n=opL o:=by
     rcases levelOf_cases t with h0 | h0
     .rw[h0] at hl;simp at hl;omega
     .rw[ho];exact⟨h0.1,h0.2.1,by rw[<-hl];exact h0.2.2⟩
    rw[<-ho] at h;have a5:wD (lv o) acc<=k/\(wT (lv o) acc).length<=(if c=0 then (wT (n+1) acc).length else (exT acc).length):=by
     by_cases hc0:c=0
     .rw[if_pos hc0];have a7:=Ay7 o;rw[<-a4.2.2] at a7;exact⟨AP (Pa a7) (hd0 hc0),O9 a7⟩
     .rw[if_neg hc0];have hk:=hc (by omega);have a8:n≠3:=λ e=>h3 ⟨e,by omega⟩
      have a0:lowE (lv o) acc=false:=by
       have:lv o=n:=by unfold lv;rw[<-a4.2.2,if_neg a8]
       rw[this];have h5:=(opL_pos a4.1 a4.2.1).2;simp[lowE,hk.1,hk.2]
      rw[Ee a0,Ed a0];exact⟨hd1 (by omega),AD _⟩
    have a6:WfE V (.mk 15 o 0 [] [acc,x] t.place):=by
     simp only[WfE,WfEs,G9];exact⟨by simp;exact⟨a4.1,a4.2.1⟩,hw,w1,trivial⟩
    have a9:exD (.mk 15 o 0 [] [acc,x] t.place)<=k:=by
     rw[Am7,<-a4.2.2];exact Nat.max_le.2 ⟨a5.1,w2⟩
    have a3:=Rb hn hq f (c+1) _ l1 e l' (hV.suf (w4.trans (AE _ _))) a6 (λ _=>⟨rfl,a4.2.2.symm⟩) h (λ h0=>by omega) (λ _=>a9);rw[if_neg (by omega)] at a3;refine⟨a3.1,a3.2.1,?_,a3.2.2.2.trans (w4.trans (AE _ _))⟩;have h1:=a3.2.2.1;have h2:=a5.2;rw[Am6,<-a4.2.2] at h1;simp only[length_append,length_cons] at h1 ⊢;omega
  .simp at h;obtain⟨rfl,rfl⟩:=h;refine⟨hw,?_,?_,suffix_refl _⟩
   .by_cases hc0:c=0
    .exact AP (Pa (show n<=n+1 by omega)) (hd0 hc0)
    .have hk:=hc (by omega);have a0:lowE n acc=false:=by
      simp[lowE,hk.1,hk.2]
     rw[Ee a0];exact hd1 (by omega)
   .by_cases hc0:c=0
    .rw[if_pos hc0];have:=O9 (e:=acc) (show n<=n+1 by omega);omega
    .rw[if_neg hc0];have hk:=hc (by omega);have a0:lowE n acc=false:=by
      simp[lowE,hk.1,hk.2]
     rw[Ed a0];omega
theorem F7{V:Nat->B->Nat->Prop}{n k:Nat}{q:P Ex}(hn:1<=n)(hq:Sm V (n+1) k q):Sm V n k (level n q):=by
 intro l e l' hV h;obtain⟨x,l1,hx,h⟩:=bind_some h;obtain⟨w1,w2,w3,w4⟩:=hq l x l1 hV hx;have:=Rb hn hq _ 0 x l1 e l' (hV.suf w4) w1 (λ h=>by omega) h (λ _=>w2) (λ h=>by omega);rw[if_pos rfl] at this;exact⟨this.1,this.2.1,by omega,this.2.2.2.trans w4⟩
theorem Aa0{V:Nat->B->Nat->Prop}{k:Nat}{q:P Ex}(hq:Sm V 6 k q):Sm V 1 k (lvl q):=
 F7 (by decide) (F7 (by decide) (F7 (by decide) (F7 (by decide) (F7 (by decide) hq))))
theorem V4{V:Nat->B->Nat->Prop}{e:Ex}(h:WfE V e):lowE 1 e=false:=by
 match e,h with
 | .mk k o n t args p,h=>
  simp only[WfE] at h;simp only[lowE,Ex.k,Ex.o];rcases h.1 with h | h | h | h | h | h | h | h
  all_goals try (simp[h.1];done)
  .rcases h.1 with h | h <;> simp[h]
  .have:=(opL_pos h.2.1 h.2.2.1).1;simp[h.1];omega
theorem Aa1{V:Nat->B->Nat->Prop}{k:Nat}{e:P Ex}(he:Sm V 1 k e):∀(f:Nat) (acc:Ex) (l:List Tok) (x:Ex) (l':List Tok),AllV V l->WfE V acc->wD 7 acc<=k+1->ats e f acc l=.inl (x,l')->WfE V x/\wD 7 x<=k+1/\(wT 7 x).length+l'.length<=(wT 7 acc).length+l.length/\l' <:+ l
 | 0,_,_,_,_,_,_,_,h=>by simp[ats] at h
 | f+1,acc,l,x,l',hV,hw,hd,h=>by
  simp only[ats] at h;split at h
  .rename_i hs;obtain⟨t,r,rfl,_,_⟩:=sees_head hs;obtain⟨y,l1,hy,h1⟩:=bind_some h;obtain⟨u,l2,hu,h2⟩:=bind_some h1;clear h h1;obtain⟨t2,rfl⟩:=need_some hu;simp only[tail_cons] at hy;have h:=h2;obtain⟨w1,w2,w3,w4⟩:=he r y (t2 :: l2) (hV.suf (AE _ _)) hy;have a3:=V4 w1;rw[Ee a3] at w2;rw[Ed a3] at w3;have a5:l2 <:+ t :: r:=((AE _ _).trans w4).trans (AE _ _);have a4:lowE 7 (.mk 12 0 0 [] [acc,y] (place (t :: r)))=false:=by simp[lowE,Ex.k]
   have a0:=Aa1 he f (.mk 12 0 0 [] [acc,y] (place (t :: r))) l2 x l' (hV.suf a5) (by simp only[WfE,WfEs,G9];exact⟨by simp,hw,w1,trivial⟩) (by rw[Ee a4,At6];exact Nat.max_le.2 ⟨hd,by omega⟩) h;refine⟨a0.1,a0.2.1,?_,a0.2.2.2.trans a5⟩;have h1:=a0.2.2.1;rw[Ed a4,At5] at h1;simp only[length_append,length_cons,length_nil] at h1 w3 ⊢;omega
  .simp at h;obtain⟨rfl,rfl⟩:=h;exact⟨hw,hd,AD _,suffix_refl _⟩
theorem commas_snoc:∀(a:List (List Tok)) (x:List Tok),(Bv (a ++ [x])).length=(Bv a).length+x.length+(if a=[] then 0 else 1)
 | [],x=>by simp[Bv]
 | [a],x=>by simp[Bv];omega
 | a :: b :: r,x=>by
  have:=commas_snoc (b :: r) x;simp only[cons_append,Bv,length_append,length_cons] at this ⊢;simp at this ⊢;omega
theorem Ni:∀(a:List Nat) (x:Nat),Fk (a ++ [x])=max (Fk a) x
 | [],x=>by simp[Fk]
 | a :: r,x=>by simp only[cons_append,Fk,Ni r x];omega
theorem sep_some{n:Nat}{l l':List Tok}{u:Unit}(h:sep n l=.inl (u,l')):(n=0/\l=l')\/(0<n/\∃t,l=t :: l'):=by
 unfold sep at h;split at h
 .rename_i hn;simp at h;exact AI ⟨hn,h⟩
 .rename_i hn;exact AJ ⟨by omega,need_some h⟩
theorem Rc{V:Nat->B->Nat->Prop}{k:Nat}{e:P Ex}(he:Sm V 1 k e):∀(f n:Nat) (acc:List Ex) (l:List Tok) (xs:List Ex) (l':List Tok),AllV V l->(∀x∈acc,WfE V x)->n=acc.length->Fk (acc.map exD)<=k->items e f n acc l=.inl (xs,l') ->
  (∀x∈xs,WfE V x)/\Fk (xs.map exD)<=k/\(Bv (xs.map exT)).length+l'.length+1<=(Bv (acc.map exT)).length+l.length/\l' <:+ l
 | 0,_,_,_,_,_,_,_,_,_,h=>by simp[items] at h
 | f+1,n,acc,l,xs,l',hV,hw,hn,hd,h=>by
  simp only[items] at h;split at h
  .rename_i hs;obtain⟨t,r,rfl,_,_⟩:=sees_head hs;simp at h;obtain⟨rfl,rfl⟩:=h;exact⟨hw,hd,by simp;omega,AE _ _⟩
  .obtain⟨u,l1,hu,h⟩:=bind_some h;obtain⟨y,l2,hy,h⟩:=bind_some h;have a4:l1 <:+ l:=by
    rcases sep_some hu with⟨_,rfl⟩ | ⟨_,t,rfl⟩
    .exact suffix_refl _
    .exact AE _ _
   obtain⟨w1,w2,w3,w4⟩:=he l1 y l2 (hV.suf a4) hy;have a3:=V4 w1;rw[Ee a3] at w2;rw[Ed a3] at w3;have a0:=Rc he f (n+1) (acc ++ [y]) l2 xs l' (hV.suf (w4.trans a4)) (λ x hx=>by simp at hx;rcases hx with hx | rfl;exact hw x hx;exact w1) (by simp[hn]) (by rw[map_append,map_cons,map_nil,Ni];exact Nat.max_le.2 ⟨hd,w2⟩) h;refine⟨a0.1,a0.2.1,?_,a0.2.2.2.trans (w4.trans a4)⟩;have h1:=a0.2.2.1;rw[map_append,map_cons,map_nil,commas_snoc] at h1;rcases sep_some hu with⟨h0,rfl⟩ | ⟨h0,t,rfl⟩
   .have:acc=[]:=length_eq_zero_iff.1 (by omega);subst this;simp only[map_nil,if_true] at h1 ⊢;omega
   .have:¬acc.map exT=[]:=by
     intro e;rw[map_eq_nil_iff] at e;subst e;simp at hn;omega
    rw[if_neg this] at h1;simp only[length_cons] at h1 w3 ⊢;omega
theorem Tz{V:Nat->B->Nat->Prop}{k:Nat}{e:P Ex}(he:Sm V 1 k e):Sm V 7 (k+1) (primary e):=by
 intro l x l' hV h
 match l,hV,h with
 | [],hV,h=>simp[primary,fail] at h
 | t :: r,hV,h=>
  have a4:=hV t (by simp);simp only[primary] at h;split at h
  .rename_i hk;simp at h;obtain⟨rfl,rfl⟩:=h;have a0:lowE 7 (.mk 1 0 t.num [] [] t.place)=false:=by simp[lowE,Ex.k]
   refine⟨by rw[WfE,WfEs];exact⟨AI ⟨rfl,rfl,rfl,rfl,t.text,a4.2.1 hk⟩,trivial⟩,?_,?_,AE _ _⟩
   .rw[Ee a0];simp[exD,dK]
   .rw[Ed a0];simp[exT,exK];omega
  split at h
  .rename_i hk;simp at h;obtain⟨rfl,rfl⟩:=h;have a0:lowE 7 (.mk 3 0 0 t.text [] t.place)=false:=by simp[lowE,Ex.k]
   refine⟨by rw[WfE,WfEs];exact⟨AJ (AJ (AI ⟨rfl,rfl,rfl,rfl,a4.2.2 hk⟩)),trivial⟩,?_,?_,AE _ _⟩
   .rw[Ee a0];simp[exD,dK]
   .rw[Ed a0];simp[exT,exK];omega
  split at h
  .simp at h;obtain⟨rfl,rfl⟩:=h;have a0:lowE 7 (.mk 2 0 1 [] [] t.place)=false:=by simp[lowE,Ex.k]
   refine⟨by rw[WfE,WfEs];exact⟨AJ (AI ⟨rfl,rfl,rfl,rfl,by decide⟩),trivial⟩,?_,?_,AE _ _⟩
   .rw[Ee a0];simp[exD,dK]
   .rw[Ed a0];simp[exT,exK];omega
  split at h
  .simp at h;obtain⟨rfl,rfl⟩:=h;have a0:lowE 7 (.mk 2 0 0 [] [] t.place)=false:=by simp[lowE,Ex.k]
   refine⟨by rw[WfE,WfEs];exact⟨AJ (AI ⟨rfl,rfl,rfl,rfl,by decide⟩),trivial⟩,?_,?_,AE _ _⟩
   .rw[Ee a0];simp[exD,dK]
   .rw[Ed a0];simp[exT,exK];omega
  split at h
  .obtain⟨y,l1,hy,h1⟩:=bind_some h;obtain⟨u,l2,hu,h2⟩:=bind_some h1;clear h h1;obtain⟨t2,rfl⟩:=need_some hu;have h:=h2;simp at h;obtain⟨rfl,rfl⟩:=h;obtain⟨w1,w2,w3,w4⟩:=he r y (t2 :: l2) (hV.suf (AE _ _)) hy;have a3:=V4 w1;rw[Ee a3] at w2;rw[Ed a3] at w3;have h1:=Ay6 7 y;have h2:=Ay5 7 y;simp only[length_cons] at w3 ⊢;exact⟨w1,by omega,by omega,((AE _ _).trans w4).trans (AE _ _)⟩
  .obtain⟨t1,l1,ht,h⟩:=bind_some h;obtain⟨hl,hk,hr⟩:=Do ht;simp at hl;obtain⟨rfl,rfl⟩:=hl;split at h
   .rename_i hs;obtain⟨t2,r2,rfl,_,_⟩:=sees_head hs;obtain⟨xs,l2,hx,h⟩:=bind_some h;simp at h;obtain⟨rfl,rfl⟩:=h;simp only[tail_cons] at hx;have hi:=Rc he _ 0 [] r2 xs l2 (hV.suf ((AE _ _).trans (AE _ _))) (λ x hx=>by simp at hx) rfl (by simp[Fk]) hx;have a0:lowE 7 (.mk 7 0 0 t.text xs t.place)=false:=by simp[lowE,Ex.k]
    refine⟨by simp only[WfE,G9];exact⟨by simp[hr,a4.1 hk],WfEs_all.2 hi.1⟩,?_,?_,hi.2.2.2.trans ((AE _ _).trans (AE _ _))⟩
    .rw[Ee a0,Z9];have:=hi.2.1;omega
    .rw[Ed a0,Z7];have:=hi.2.2.1;simp[Bv] at this ⊢;omega
   .simp at h;obtain⟨rfl,rfl⟩:=h;have a0:lowE 7 (.mk 6 0 0 t.text [] t.place)=false:=by simp[lowE,Ex.k]
    refine⟨by simp only[WfE,WfEs,G9];exact⟨by simp[hr,a4.1 hk],trivial⟩,?_,?_,AE _ _⟩
    .rw[Ee a0];simp[exD,dK]
    .rw[Ed a0];simp[exT,exK];omega
theorem Ib(V:Nat->B->Nat->Prop):∀k,Sm V 6 k (unary k)
 | 0=>by intro l e l' hV h;simp[unary,fail] at h
 | k+1=>by
  intro l e l' hV h;simp only[unary] at h;split at h
  .rename_i hs;obtain⟨t,r,rfl,_,_⟩:=sees_head hs;obtain⟨y,l1,hy,h⟩:=bind_some h;simp at h;obtain⟨rfl,rfl⟩:=h;simp only[tail_cons] at hy;obtain⟨w1,w2,w3,w4⟩:=Ib V k r y l1 (hV.suf (AE _ _)) hy;have a0:lowE 6 (.mk 13 0 0 [] [y] (place (t :: r)))=false:=by simp[lowE,Ex.k]
   refine⟨by simp only[WfE,WfEs,G9];exact⟨by simp,w1,trivial⟩,?_,?_,w4.trans (AE _ _)⟩
   .rw[Ee a0,Z8 _ _ _ _ _ _ (Or.inl rfl)];omega
   .rw[Ed a0,Am4];simp only[length_cons];omega
  split at h
  .rename_i hs;obtain⟨t,r,rfl,_,_⟩:=sees_head hs;obtain⟨y,l1,hy,h⟩:=bind_some h;simp at h;obtain⟨rfl,rfl⟩:=h;simp only[tail_cons] at hy;obtain⟨w1,w2,w3,w4⟩:=Ib V k r y l1 (hV.suf (AE _ _)) hy;have a0:lowE 6 (.mk 14 0 0 [] [y] (place (t :: r)))=false:=by simp[lowE,Ex.k]
   refine⟨by simp only[WfE,WfEs,G9];exact⟨by simp,w1,trivial⟩,?_,?_,w4.trans (AE _ _)⟩
   .rw[Ee a0,Z8 _ _ _ _ _ _ (Or.inr rfl)];omega
   .rw[Ed a0,Am5];simp only[length_cons];omega
  .obtain⟨y,l1,hy,h⟩:=bind_some h;have he:=Aa0 (Ib V k);obtain⟨w1,w2,w3,w4⟩:=Tz he l y l1 hV hy;have ha:=Aa1 he _ y l1 e l' (hV.suf w4) w1 w2 h;exact⟨ha.1,AP (Pa (by decide)) ha.2.1,by have:=O9 (e:=e) (show 6<=7 by decide);have:=ha.2.2.1;omega,ha.2.2.2.trans w4⟩
theorem Eu(V:Nat->B->Nat->Prop)(k:Nat){l l':List Tok}{e:Ex}(hV:AllV V l)(h:Mq k l=.inl (e,l')):WfE V e/\exD e<=k/\(exT e).length+l'.length<=l.length/\l' <:+ l:=by
 obtain⟨w1,w2,w3,w4⟩:=Aa0 (Ib V k) l e l' hV h;have a0:=V4 w1;rw[Ee a0] at w2;rw[Ed a0] at w3;exact⟨w1,w2,w3,w4⟩
end Px
namespace Px
open Lx (Tok B)
theorem T0{t:Tok}(h:(levelOf t).1≠0):t.kind=4:=by
 by_cases hk:t.kind=4
 .exact hk
 .unfold levelOf at h;rw[if_neg hk] at h;simp at h
theorem chain_fuel{n:Nat}{q:P Ex}(hn:0<n)(hq:Ok q):∀(f g c:Nat) (acc:Ex) (l:List Tok),Good l->l.length<f->l.length<g->chain n q f c acc l=chain n q g c acc l
 | 0,_,_,_,_,_,h,_=>by omega
 | _,0,_,_,_,_,_,h=>by omega
 | f+1,g+1,c,acc,[],hg,_,_=>by exact absurd hg (by simp[Good])
 | f+1,g+1,c,acc,t :: r,hg,h1,h2=>by
  simp only[chain];by_cases hl:(levelOf t).1=n
  .rw[if_pos hl,if_pos hl];split
   .rfl
   .have hk:=T0 (t:=t) (by omega);have a0:=hg.tail (by omega);refine bind_congr λ x l1 e1=>?_
    have a1:=(hq r a0).ok x l1 e1;have:=a1.less;simp only[length_cons] at h1 h2;exact chain_fuel hn hq f g (c+1) _ l1 a1.good (by omega) (by omega)
  .rw[if_neg hl,if_neg hl]
theorem items_fuel{α:Type}{q:P α}(hq:Ok q):∀(f g n:Nat) (acc:List α) (l:List Tok),Good l->l.length<f->l.length<g->items q f n acc l=items q g n acc l
 | 0,_,_,_,_,_,h,_=>by omega
 | _,0,_,_,_,_,_,h=>by omega
 | f+1,g+1,n,acc,l,hg,h1,h2=>by
  simp only[items];split
  .rfl
  .refine bind_congr λ u l1 e1=>bind_congr λ x l2 e2=>?_
   have a1:=(sep_res hg).ok u l1 e1;have a2:=(hq l1 a1.good).ok x l2 e2;exact items_fuel hq f g (n+1) _ l2 a2.good (by have:=a1.less;have:=a2.less;omega) (by have:=a1.less;have:=a2.less;omega)
theorem ats_fuel{e:P Ex}(he:Ok e):∀(f g:Nat) (acc:Ex) (l:List Tok),Good l->l.length<f->l.length<g->ats e f acc l=ats e g acc l
 | 0,_,_,_,_,h,_=>by omega
 | _,0,_,_,_,_,h=>by omega
 | f+1,g+1,acc,l,hg,h1,h2=>by
  simp only[ats];split
  .rename_i hs;have a:=sees4 hs hg;refine bind_congr λ x l1 e1=>bind_congr λ u l2 e2=>?_
   have a1:=(he _ a.good).ok x l1 e1;have a2:=(need_res a1.good).ok u l2 e2;exact ats_fuel he f g _ l2 a2.good (by have:=a.less;have:=a1.less;have:=a2.less;omega) (by have:=a.less;have:=a1.less;have:=a2.less;omega)
  .rfl
def pa(k:Nat)(l:List Tok):R Ex:=bind (primary (lvl (unary k)) l) λ x l1=>ats (lvl (unary k)) (l1.length+1) x l1
end Px
namespace Px
open Lx (Tok B)
inductive Ty:Nat->B->List Tok->Prop
 | int {k:Nat}:Ty (k+1) [105,110,116] [wd [105,110,116]]
 | bool {k:Nat}:Ty (k+1) [98,111,111,108] [wd [98,111,111,108]]
 | text {k:Nat}:Ty (k+1) [116,101,120,116] [wd [116,101,120,116]]
 | list {k:Nat} {y:B} {c:List Tok}:Ty k y c->Ty (k+1) ([91] ++ y ++ [93]) (mk4 [91] :: (c ++ [mk4 [93]]))
 | map {k:Nat} {a y:B} {c:List Tok}:(a=[105,110,116]\/a=[116,101,120,116])->Ty k y c->Ty (k+1) ([123] ++ a ++ [58] ++ y ++ [125]) (mk4 [123] :: wd a :: mk4 [58] :: (c ++ [mk4 [125]]))
theorem Aa2{l l':List Tok}{a:B}(h:key l=.inl (a,l')):(a=[105,110,116]\/a=[116,101,120,116])/\∃t,l=t :: l':=by
 unfold key at h;split at h
 .rename_i hs;obtain⟨t,r,rfl,_,_⟩:=sees_head hs;simp at h;exact⟨AI h.1.symm,t,by rw[h.2]⟩
 split at h
 .rename_i hs;obtain⟨t,r,rfl,_,_⟩:=sees_head hs;simp at h;exact⟨AJ h.1.symm,t,by rw[h.2]⟩
 .simp[fail] at h
theorem Pb:∀(k:Nat) (l:List Tok) (y:B) (l':List Tok),typ k l=.inl (y,l')->∃c,Ty k y c/\c.length+l'.length=l.length/\l' <:+ l
 | 0,l,y,l',h=>by simp[typ,fail] at h
 | k+1,l,y,l',h=>by
  simp only[typ] at h;split at h
  .rename_i hs;obtain⟨t,r,rfl,_,_⟩:=sees_head hs;simp at h;obtain⟨rfl,rfl⟩:=h;exact⟨_,.int,by simp;omega,AE _ _⟩
  split at h
  .rename_i hs;obtain⟨t,r,rfl,_,_⟩:=sees_head hs;simp at h;obtain⟨rfl,rfl⟩:=h;exact⟨_,.bool,by simp;omega,AE _ _⟩
  split at h
  .rename_i hs;obtain⟨t,r,rfl,_,_⟩:=sees_head hs;simp at h;obtain⟨rfl,rfl⟩:=h;exact⟨_,.text,by simp;omega,AE _ _⟩
  split at h
  .rename_i hs;obtain⟨t,r,rfl,_,_⟩:=sees_head hs;obtain⟨y1,l1,h1,h2⟩:=bind_some h;obtain⟨u,l2,h3,h4⟩:=bind_some h2;clear h h2;obtain⟨t2,rfl⟩:=need_some h3;simp at h4;obtain⟨rfl,rfl⟩:=h4;simp only[tail_cons] at h1;obtain⟨c,hc,hl,hs⟩:=Pb k r y1 _ h1;exact⟨_,.list hc,by simp at hl ⊢;omega,((AE _ _).trans hs).trans (AE _ _)⟩
  split at h
  .rename_i hs;obtain⟨t,r,rfl,_,_⟩:=sees_head hs;obtain⟨a,l1,h1,h2⟩:=bind_some h;obtain⟨u,l2,h3,h4⟩:=bind_some h2;obtain⟨y1,l3,h5,h6⟩:=bind_some h4;obtain⟨u2,l4,h7,h8⟩:=bind_some h6;clear h h2 h4 h6;simp only[tail_cons] at h1;obtain⟨ha,t1,rfl⟩:=Aa2 h1;clear h1;obtain⟨t2,rfl⟩:=need_some h3;clear h3;obtain⟨t3,rfl⟩:=need_some h7;simp only[Sum.inl.injEq,Prod.mk.injEq] at h8;obtain⟨rfl,rfl⟩:=h8;obtain⟨c,hc,hl,hs⟩:=Pb k l2 y1 _ h5;exact⟨_,.map ha hc,by simp at hl ⊢;omega,((((AE _ _).trans hs).trans (AE _ _)).trans (AE _ _)).trans (AE _ _)⟩
  .simp[fail] at h
open Classical in
noncomputable def tyT (y:B):List Tok:=if h:∃c,Ty 4 y c then Classical.choose h else []
theorem Aa3{y:B}{c:List Tok}(h:Ty 4 y c):Ty 4 y (tyT y):=by
 have hh:∃c,Ty 4 y c:=⟨c,h⟩;unfold tyT;rw[dif_pos hh];exact Classical.choose_spec hh
theorem Ty.uniq{k:Nat}{y:B}{c:List Tok}(h:Ty k y c):∀{k':Nat} {y':B} {d:List Tok},Ty k' y' d->y'=y->c=d:=by
 induction h with
 | int=>
  intro k' y' d h2 e;cases h2 with
  | int=>rfl
  | bool=>simp at e
  | text=>simp at e
  | list=>simp at e
  | map=>simp at e
 | bool=>
  intro k' y' d h2 e;cases h2 with
  | int=>simp at e
  | bool=>rfl
  | text=>simp at e
  | list=>simp at e
  | map=>simp at e
 | text=>
  intro k' y' d h2 e;cases h2 with
  | int=>simp at e
  | bool=>simp at e
  | text=>rfl
  | list=>simp at e
  | map=>simp at e
 | list _ ih=>
  intro k' y' d h2 e;cases h2 with
  | int=>simp at e
  | bool=>simp at e
  | text=>simp at e
  | list h3=>
   simp at e;rw[ih h3 e]
  | map=>simp at e
 | @map k a y c ha _ ih=>
  intro k' y' d h2 e;cases h2 with
  | int=>simp at e
  | bool=>simp at e
  | text=>simp at e
  | list=>simp at e
  | map hb h3=>
   rcases ha with rfl | rfl <;> rcases hb with rfl | rfl
   .simp at e;rw[ih h3 e]
   .simp at e
   .simp at e
   .simp at e;rw[ih h3 e]
theorem Aa4{y:B}{c:List Tok}(h:Ty 4 y c):tyT y=c:=(Aa3 h).uniq h rfl
noncomputable def slT (s:Sl):List Tok:=wd s.name :: mk4 [58] :: tyT s.type
def NmOk(V:Nat->B->Nat->Prop)(t:B):Prop:=reserved t=false/\V 1 t 0
def WfSl(V:Nat->B->Nat->Prop)(s:Sl):Prop:=NmOk V s.name/\∃c,Ty 4 s.type c
theorem V5{V:Nat->B->Nat->Prop}{l l':List Tok}{s:Sl}(hV:AllV V l)(h:slot l=.inl (s,l')):WfSl V s/\(slT s).length+l'.length<=l.length/\l' <:+ l:=by
 obtain⟨t,l1,h1,h2⟩:=bind_some h;obtain⟨u,l2,h3,h4⟩:=bind_some h2;obtain⟨y,l3,h5,h6⟩:=bind_some h4;clear h h2 h4;obtain⟨rfl,hk,hr⟩:=Do h1;clear h1;obtain⟨t2,rfl⟩:=need_some h3;simp at h6;obtain⟨rfl,rfl⟩:=h6;obtain⟨c,hc,hl,hs⟩:=Pb 4 l2 y _ h5;refine⟨⟨⟨hr,(hV t (by simp)).1 hk⟩,c,hc⟩,?_,(hs.trans (AE _ _)).trans (AE _ _)⟩;simp only[slT,length_cons,Aa4 hc];omega
def blk(l:List Tok):List Tok:=mk4 [123] :: (l ++ [mk4 [125]])
def stK(k:Nat)(n:B)(es:List (List Tok))(b c:List Tok)(none:Bool):List Tok:=
 if k=1 then wd [108,101,116] :: wd n :: mk4 [61] :: (es.getD 0 [] ++ [mk4 [59]])
 else if k=2 then (if es.length=1 then wd [115,101,116] :: wd n :: mk4 [61] :: (es.getD 0 [] ++ [mk4 [59]]) else wd [115,101,116] :: wd n :: mk4 [91] :: (es.getD 0 [] ++ mk4 [93] :: mk4 [61] :: (es.getD 1 [] ++ [mk4 [59]])))
 else if k=3 then wd [100,101,108] :: wd n :: mk4 [91] :: (es.getD 0 [] ++ [mk4 [93],mk4 [59]])
 else if k=4 then wd [105,102] :: (es.getD 0 [] ++ (blk b ++ if none then [] else wd [101,108,115,101] :: blk c))
 else if k=5 then wd [102,111,114] :: wd n :: wd [116,111] :: (es.getD 0 [] ++ blk b)
 else wd [114,101,116] :: (es.getD 0 [] ++ [mk4 [59]])
mutual
def stT:St->List Tok
 | .mk k n es b c _=>stK k n (es.map exT) (Ci b) (Ci c) c.isEmpty
def Ci:List St->List Tok
 | []=>[]
 | s :: r=>stT s ++ Ci r
end
mutual
def stD:St->Nat
 | .mk k n es b c _=>max (Fk (es.map exD)) (max (if k=4\/k=5 then 1+Ic b else 0) (if k=4/\c.isEmpty=false then 1+Ic c else 0))
def Ic:List St->Nat
 | []=>0
 | s :: r=>max (stD s) (Ic r)
end
def FormS(V:Nat->B->Nat->Prop)(k:Nat)(n:B)(len:Nat)(b c:List St):Prop:=
 (k=1/\NmOk V n/\len=1/\b=[]/\c=[])\/(k=2/\NmOk V n/\(len=1\/len=2)/\b=[]/\c=[])\/(k=3/\NmOk V n/\len=1/\b=[]/\c=[])\/(k=4/\n=[]/\len=1)\/(k=5/\NmOk V n/\len=1/\c=[])\/(k=6/\n=[]/\len=1/\b=[]/\c=[])
mutual
def WfS(V:Nat->B->Nat->Prop):St->Prop
 | .mk k n es b c _=>FormS V k n es.length b c/\(∀e∈es,WfE V e)/\Cg V b/\Cg V c
def Cg(V:Nat->B->Nat->Prop):List St->Prop
 | []=>True
 | s :: r=>WfS V s/\Cg V r
end
theorem Rd:∀(a b:List St),Ci (a ++ b)=Ci a ++ Ci b
 | [],b=>by simp[Ci]
 | s :: r,b=>by simp[Ci,Rd r b]
theorem Re:∀(a b:List St),Ic (a ++ b)=max (Ic a) (Ic b)
 | [],b=>by simp[Ic]
 | s :: r,b=>by simp only[cons_append,Ic,Re r b];omega
theorem Rf{V:Nat->B->Nat->Prop}:∀{a b:List St},Cg V a->Cg V b->Cg V (a ++ b)
 | [],b,_,h=>h
 | s :: r,b,h1,h2=>by
  simp only[Cg] at h1;simp only[cons_append,Cg];exact⟨h1.1,Rf h1.2 h2⟩
def SmS(V:Nat->B->Nat->Prop)(k:Nat)(q:P St):Prop:=∀l s l',AllV V l->q l=.inl (s,l')->WfS V s/\stD s<=k/\(stT s).length+l'.length<=l.length/\l' <:+ l
def SmB(V:Nat->B->Nat->Prop)(k:Nat)(q:P (List St)):Prop:=∀l b l',AllV V l->q l=.inl (b,l')->Cg V b/\1+Ic b<=k/\(blk (Ci b)).length+l'.length<=l.length/\l' <:+ l
theorem Rg{V:Nat->B->Nat->Prop}{k:Nat}{q:P St}(hq:SmS V k q):∀(f:Nat) (acc:List St) (l:List Tok) (b:List St) (l':List Tok),AllV V l->Cg V acc->Ic acc<=k->stmts q f acc l=.inl (b,l')->Cg V b/\Ic b<=k/\(Ci b).length+l'.length+1<=(Ci acc).length+l.length/\l' <:+ l
 | 0,_,_,_,_,_,_,_,h=>by simp[stmts] at h
 | f+1,acc,l,b,l',hV,hw,hd,h=>by
  simp only[stmts] at h;split at h
  .rename_i hs;obtain⟨t,r,rfl,_,_⟩:=sees_head hs;simp at h;obtain⟨rfl,rfl⟩:=h;exact⟨hw,hd,by simp;omega,AE _ _⟩
  .obtain⟨s,l1,h1,h2⟩:=bind_some h;obtain⟨w1,w2,w3,w4⟩:=hq l s l1 hV h1;have a0:=Rg hq f (acc ++ [s]) l1 b l' (hV.suf w4) (Rf hw (by simp only[Cg];exact⟨w1,trivial⟩)) (by rw[Re];simp only[Ic];omega) h2;refine⟨a0.1,a0.2.1,?_,a0.2.2.2.trans w4⟩;have h3:=a0.2.2.1;rw[Rd] at h3;simp only[Ci,append_nil,length_append] at h3;omega
theorem Dz(k:Nat)(n:B)(es:List Ex)(b c:List St)(p:Nat):stT (.mk k n es b c p)=stK k n (es.map exT) (Ci b) (Ci c) c.isEmpty:=by rw[stT]
theorem Am8{V:Nat->B->Nat->Prop}{k:Nat}{q:P (List St)}(hq:SmB V k q):SmS V k (stmt (Mq k) q):=by
 intro l s l' hV h;unfold stmt at h;split at h
 .rename_i hs;obtain⟨t0,r,rfl,_,_⟩:=sees_head hs;obtain⟨t,l1,h1,h2⟩:=bind_some h;obtain⟨u,l2,h3,h4⟩:=bind_some h2;obtain⟨x,l3,h5,h6⟩:=bind_some h4;obtain⟨u2,l4,h7,h8⟩:=bind_some h6;clear h h2 h4 h6;simp only[tail_cons] at h1;obtain⟨rfl,hk,hr⟩:=Do h1;clear h1;obtain⟨t2,rfl⟩:=need_some h3;clear h3;obtain⟨t3,rfl⟩:=need_some h7;simp at h8;obtain⟨rfl,rfl⟩:=h8;have a0:AllV V l2:=hV.suf (((AE _ _).trans (AE _ _)).trans (AE _ _));obtain⟨w1,w2,w3,w4⟩:=Eu V k a0 h5;refine⟨?_,?_,?_,((((AE _ _).trans w4).trans (AE _ _)).trans (AE _ _)).trans (AE _ _)⟩
  .simp only[WfS,Cg,FormS];exact⟨AI ⟨trivial,⟨hr,(hV t (by simp)).1 hk⟩,by simp⟩,by simpa using w1,trivial,trivial⟩
  .simp[stD,Fk];omega
  .rw[Dz];simp[stK] at w3 ⊢;omega
 split at h
 .rename_i _ hs;obtain⟨t0,r,rfl,_,_⟩:=sees_head hs;obtain⟨t,l1,h1,h2⟩:=bind_some h;obtain⟨xs,l2,h3,h4⟩:=bind_some h2;obtain⟨u,l3,h5,h6⟩:=bind_some h4;obtain⟨x,l4,h7,h8⟩:=bind_some h6;obtain⟨u2,l5,h9,a3⟩:=bind_some h8;clear h h2 h4 h6 h8;simp only[tail_cons] at h1;obtain⟨rfl,hk,hr⟩:=Do h1;clear h1;obtain⟨t2,rfl⟩:=need_some h5;clear h5;obtain⟨t3,rfl⟩:=need_some h9;simp at a3;obtain⟨rfl,rfl⟩:=a3;have a5:NmOk V t.text:=⟨hr,(hV t (by simp)).1 hk⟩;unfold opt at h3;split at h3
  .rename_i hs2;obtain⟨t4,r4,rfl,_,_⟩:=sees_head hs2;obtain⟨y,l6,g1,g2⟩:=bind_some h3;obtain⟨u3,l7,g3,g4⟩:=bind_some g2;clear h3 g2;obtain⟨t5,rfl⟩:=need_some g3;simp at g4;obtain⟨rfl,rfl⟩:=g4;simp only[tail_cons] at g1;have a0:AllV V r4:=hV.suf (((AE _ _).trans (AE _ _)).trans (AE _ _));obtain⟨v1,v2,v3,v4⟩:=Eu V k a0 g1;have a4:AllV V l3:=a0.suf (((AE _ _).trans (AE _ _)).trans v4);obtain⟨w1,w2,w3,w4⟩:=Eu V k a4 h7;refine⟨?_,?_,?_,(((AE _ _).trans w4).trans (((AE _ _).trans (AE _ _)).trans v4)).trans (((AE _ _).trans (AE _ _)).trans (AE _ _))⟩
   .simp only[WfS,Cg,FormS];exact⟨AJ (AI ⟨trivial,a5,by simp⟩),by simpa using ⟨v1,w1⟩,trivial,trivial⟩
   .simp[stD,Fk];omega
   .rw[Dz];simp[stK] at v3 w3 ⊢;omega
  .simp at h3;obtain⟨rfl,rfl⟩:=h3;have a4:AllV V l3:=hV.suf (((AE _ _).trans (AE _ _)).trans (AE _ _));obtain⟨w1,w2,w3,w4⟩:=Eu V k a4 h7;refine⟨?_,?_,?_,((AE _ _).trans w4).trans (((AE _ _).trans (AE _ _)).trans (AE _ _))⟩
   .simp only[WfS,Cg,FormS];exact⟨AJ (AI ⟨trivial,a5,by simp⟩),by simpa using w1,trivial,trivial⟩
   .simp[stD,Fk];omega
   .rw[Dz];simp[stK] at w3 ⊢;omega
 split at h
 .rename_i _ _ hs;obtain⟨t0,r,rfl,_,_⟩:=sees_head hs;obtain⟨t,l1,h1,h2⟩:=bind_some h;obtain⟨u,l2,h3,h4⟩:=bind_some h2;obtain⟨x,l3,h5,h6⟩:=bind_some h4;obtain⟨u2,l4,h7,h8⟩:=bind_some h6;obtain⟨u3,l5,h9,a3⟩:=bind_some h8;clear h h2 h4 h6 h8;simp only[tail_cons] at h1;obtain⟨rfl,hk,hr⟩:=Do h1;clear h1;obtain⟨t2,rfl⟩:=need_some h3;clear h3;obtain⟨t3,rfl⟩:=need_some h7;clear h7;obtain⟨t4,rfl⟩:=need_some h9;simp at a3;obtain⟨rfl,rfl⟩:=a3;have a0:AllV V l2:=hV.suf (((AE _ _).trans (AE _ _)).trans (AE _ _));obtain⟨w1,w2,w3,w4⟩:=Eu V k a0 h5;refine⟨?_,?_,?_,(((AE _ _).trans (AE _ _)).trans w4).trans (((AE _ _).trans (AE _ _)).trans (AE _ _))⟩
  .simp only[WfS,Cg,FormS];exact⟨AJ (AJ (AI ⟨trivial,⟨hr,(hV t (by simp)).1 hk⟩,by simp⟩)),by simpa using w1,trivial,trivial⟩
  .simp[stD,Fk];omega
  .rw[Dz];simp[stK] at w3 ⊢;omega
 split at h
 .rename_i _ _ _ hs;obtain⟨t0,r,rfl,_,_⟩:=sees_head hs;obtain⟨x,l1,h1,h2⟩:=bind_some h;obtain⟨b,l2,h3,h4⟩:=bind_some h2;obtain⟨c,l3,h5,h6⟩:=bind_some h4;clear h h2 h4;simp at h6;obtain⟨rfl,rfl⟩:=h6;simp only[tail_cons] at h1;have a0:AllV V r:=hV.suf (AE _ _);obtain⟨w1,w2,w3,w4⟩:=Eu V k a0 h1;obtain⟨v1,v2,v3,v4⟩:=hq l1 b l2 (a0.suf w4) h3;unfold other at h5;split at h5
  .rename_i hs2;obtain⟨t4,r4,rfl,_,_⟩:=sees_head hs2;simp only[tail_cons] at h5;obtain⟨z1,z2,z3,z4⟩:=hq r4 c _ (a0.suf (((AE _ _).trans v4).trans w4)) h5;refine⟨?_,?_,?_,(((z4.trans (AE _ _)).trans v4).trans w4).trans (AE _ _)⟩
   .simp only[WfS,FormS];exact⟨AJ (AJ (AJ (AI ⟨trivial,trivial,by simp⟩))),by simpa using w1,v1,z1⟩
   .simp only[stD,map_cons,map_nil,Fk];simp;split <;> omega
   .rw[Dz];rcases c with _ | ⟨s,c⟩
    .simp[stK,blk] at w3 v3 z3 ⊢;omega
    .simp[stK,blk] at w3 v3 z3 ⊢;omega
  .simp at h5;obtain⟨rfl,rfl⟩:=h5;refine⟨?_,?_,?_,(v4.trans w4).trans (AE _ _)⟩
   .simp only[WfS,Cg,FormS];exact⟨AJ (AJ (AJ (AI ⟨trivial,trivial,by simp⟩))),by simpa using w1,v1,trivial⟩
   .simp only[stD,map_cons,map_nil,Fk];simp;omega
   .rw[Dz];simp[stK,blk] at w3 v3 ⊢;omega
 split at h
 .rename_i _ _ _ _ hs;obtain⟨t0,r,rfl,_,_⟩:=sees_head hs;obtain⟨t,l1,h1,h2⟩:=bind_some h;obtain⟨u,l2,h3,h4⟩:=bind_some h2;obtain⟨x,l3,h5,h6⟩:=bind_some h4;obtain⟨b,l4,h7,h8⟩:=bind_some h6;clear h h2 h4 h6;simp only[tail_cons] at h1;obtain⟨rfl,hk,hr⟩:=Do h1;clear h1;obtain⟨t2,rfl,_,_⟩:=Ho h3;simp at h8;obtain⟨rfl,rfl⟩:=h8;have a0:AllV V l2:=hV.suf (((AE _ _).trans (AE _ _)).trans (AE _ _));obtain⟨w1,w2,w3,w4⟩:=Eu V k a0 h5;obtain⟨v1,v2,v3,v4⟩:=hq l3 b _ (a0.suf w4) h7;refine⟨?_,?_,?_,(v4.trans w4).trans (((AE _ _).trans (AE _ _)).trans (AE _ _))⟩
  .simp only[WfS,Cg,FormS];exact⟨AJ (AJ (AJ (AJ (AI ⟨trivial,⟨hr,(hV t (by simp)).1 hk⟩,by simp⟩)))),by simpa using w1,v1,trivial⟩
  .simp only[stD,map_cons,map_nil,Fk];simp;omega
  .rw[Dz];simp[stK,blk] at w3 v3 ⊢;omega
 split at h
 .rename_i _ _ _ _ _ hs;obtain⟨t0,r,rfl,_,_⟩:=sees_head hs;obtain⟨x,l1,h1,h2⟩:=bind_some h;obtain⟨u,l2,h3,h4⟩:=bind_some h2;clear h h2;obtain⟨t2,rfl⟩:=need_some h3;simp at h4;obtain⟨rfl,rfl⟩:=h4;simp only[tail_cons] at h1;obtain⟨w1,w2,w3,w4⟩:=Eu V k (hV.suf (AE _ _)) h1;refine⟨?_,?_,?_,((AE _ _).trans w4).trans (AE _ _)⟩
  .simp only[WfS,Cg,FormS];exact⟨AJ (AJ (AJ (AJ (AJ ⟨trivial,trivial,by simp⟩)))),by simpa using w1,trivial,trivial⟩
  .simp[stD,Fk];omega
  .rw[Dz];simp[stK] at w3 ⊢;omega
 .simp[fail] at h
theorem Rh(V:Nat->B->Nat->Prop):∀k,SmB V k (block k)
 | 0=>by intro l b l' hV h;simp[block,fail] at h
 | k+1=>by
  intro l b l' hV h;simp only[block] at h;obtain⟨u,l1,h1,h2⟩:=bind_some h;clear h;obtain⟨t,rfl⟩:=need_some h1;obtain⟨w1,w2,w3,w4⟩:=Rg (Am8 (Rh V k)) _ [] l1 b l' (hV.suf (AE _ _)) (by simp[Cg]) (by simp[Ic]) h2;exact⟨w1,by omega,by simp[blk,Ci] at w3 ⊢;omega,w4.trans (AE _ _)⟩
end Px
namespace Px
open Lx (Tok B)
theorem Ri{V:Nat->B->Nat->Prop}:∀(f n:Nat) (acc:List Sl) (l:List Tok) (xs:List Sl) (l':List Tok),AllV V l->(∀x∈acc,WfSl V x)->n=acc.length->items slot f n acc l=.inl (xs,l') ->
  (∀x∈xs,WfSl V x)/\(Bv (xs.map slT)).length+l'.length+1<=(Bv (acc.map slT)).length+l.length/\l' <:+ l
 | 0,_,_,_,_,_,_,_,_,h=>by simp[items] at h
 | f+1,n,acc,l,xs,l',hV,hw,hn,h=>by
  simp only[items] at h;split at h
  .rename_i hs;obtain⟨t,r,rfl,_,_⟩:=sees_head hs;simp at h;obtain⟨rfl,rfl⟩:=h;exact⟨hw,by simp;omega,AE _ _⟩
  .obtain⟨u,l1,hu,h1⟩:=bind_some h;obtain⟨y,l2,hy,h2⟩:=bind_some h1;have a3:l1 <:+ l:=by
    rcases sep_some hu with⟨_,rfl⟩ | ⟨_,t,rfl⟩
    .exact suffix_refl _
    .exact AE _ _
   obtain⟨w1,w3,w4⟩:=V5 (hV.suf a3) hy;have a0:=Ri f (n+1) (acc ++ [y]) l2 xs l' (hV.suf (w4.trans a3)) (λ x hx=>by simp at hx;rcases hx with hx | rfl;exact hw x hx;exact w1) (by simp[hn]) h2;refine⟨a0.1,?_,a0.2.2.trans (w4.trans a3)⟩;have h3:=a0.2.1;rw[map_append,map_cons,map_nil,commas_snoc] at h3;rcases sep_some hu with⟨h0,rfl⟩ | ⟨h0,t,rfl⟩
   .have:acc=[]:=length_eq_zero_iff.1 (by omega);subst this;simp only[map_nil,if_true] at h3 ⊢;omega
   .have:¬acc.map slT=[]:=by
     intro e;rw[map_eq_nil_iff] at e;subst e;simp at hn;omega
    rw[if_neg this] at h3;simp only[length_cons] at h3 w3 ⊢;omega
noncomputable def fnT (f:Fn):List Tok:=wd f.name :: mk4 [40] :: (Bv (f.params.map slT) ++ mk4 [41] :: mk4 [58] :: (tyT f.result ++ blk (Ci f.body)))
def WfF(V:Nat->B->Nat->Prop)(f:Fn):Prop:=NmOk V f.name/\(∀s∈f.params,WfSl V s)/\(∃c,Ty 4 f.result c)/\Cg V f.body/\1+Ic f.body<=24
theorem Jr{V:Nat->B->Nat->Prop}{on:Bool}{l l':List Tok}{f:Fn}(hV:AllV V l)(h:function on l=.inl (f,l')):WfF V f/\f.on=on/\(fnT f).length+l'.length<=l.length/\l' <:+ l:=by
 obtain⟨t,l1,h1,h2⟩:=bind_some h;obtain⟨u,l2,h3,h4⟩:=bind_some h2;obtain⟨ps,l3,h5,h6⟩:=bind_some h4;obtain⟨u2,l4,h7,h8⟩:=bind_some h6;obtain⟨y,l5,h9,a0⟩:=bind_some h8;obtain⟨b,l6,a6,a3⟩:=bind_some a0;clear h h2 h4 h6 h8 a0;obtain⟨rfl,hk,hr⟩:=Do h1;clear h1;obtain⟨t2,rfl⟩:=need_some h3;clear h3;obtain⟨t3,rfl⟩:=need_some h7;simp at a3;obtain⟨rfl,rfl⟩:=a3;have a4:AllV V l2:=hV.suf ((AE _ _).trans (AE _ _));obtain⟨w1,w2,w3⟩:=Ri (V:=V) _ 0 [] l2 ps (t3 :: l4) a4 (by simp) rfl h5;obtain⟨c,hc,hl,hs⟩:=Pb 4 l4 y l5 h9;have a5:AllV V l5:=a4.suf ((hs.trans (AE _ _)).trans w3);obtain⟨v1,v2,v3,v4⟩:=Rh V 24 l5 b _ a5 a6;refine⟨⟨⟨hr,(hV t (by simp)).1 hk⟩,w1,⟨c,hc⟩,v1,v2⟩,rfl,?_,(((v4.trans hs).trans (AE _ _)).trans w3).trans ((AE _ _).trans (AE _ _))⟩;simp only[fnT,Aa4 hc];simp[Bv] at w2 ⊢;omega
noncomputable def ssT:List Sl->List Tok
 | []=>[]
 | s :: r=>wd [115,116,97,116,101] :: (slT s ++ mk4 [59] :: ssT r)
noncomputable def fsT:List Fn->List Tok
 | []=>[]
 | f :: r=>wd (if f.on then [111,110] else [102,110]) :: (fnT f ++ fsT r)
def Bc0:Tok:=⟨5,[],0,0⟩
noncomputable def prT (p:Pr):List Tok:=wd [118,101,114,115,105,111,110] :: ⟨2,dg p.version,p.version,0⟩ :: mk4 [59] :: (ssT p.states ++ (fsT p.fns ++ [Bc0]))
def WfP(V:Nat->B->Nat->Prop)(p:Pr):Prop:=(∃x,V 2 x p.version)/\(∀s∈p.states,WfSl V s)/\(∀f∈p.fns,WfF V f)
theorem V6:∀(a:List Sl) (s:Sl),(ssT (a ++ [s])).length=(ssT a).length+(slT s).length+2
 | [],s=>by simp[ssT]
 | x :: r,s=>by
  have:=V6 r s;simp only[cons_append,ssT,length_cons,length_append,this];omega
theorem Pc:∀(a:List Fn) (f:Fn),(fsT (a ++ [f])).length=(fsT a).length+(fnT f).length+1
 | [],f=>by simp[fsT]
 | x :: r,f=>by
  have:=Pc r f;simp only[cons_append,fsT,length_cons,length_append,this];omega
theorem Id{V:Nat->B->Nat->Prop}:∀(f:Nat) (p:Pr) (l:List Tok) (p':Pr) (l':List Tok),AllV V l->(∀s∈p.states,WfSl V s)->(∀f∈p.fns,WfF V f)->parts f p l=.inl (p',l') ->
  p'.version=p.version/\(∀s∈p'.states,WfSl V s)/\(∀f∈p'.fns,WfF V f)/\(ssT p'.states).length+(fsT p'.fns).length+l'.length<=(ssT p.states).length+(fsT p.fns).length+l.length/\1<=l'.length
 | 0,_,_,_,_,_,_,_,h=>by simp[parts] at h
 | f+1,p,[],_,_,_,_,_,h=>by simp[parts] at h
 | f+1,p,t :: r,p',l',hV,h1,h2,h=>by
  simp only[parts] at h;split at h
  .simp at h;obtain⟨rfl,rfl⟩:=h;exact⟨rfl,h1,h2,AD _,by simp⟩
  split at h
  .obtain⟨s,l1,g1,g2⟩:=bind_some h;obtain⟨u,l2,g3,g4⟩:=bind_some g2;clear h g2;obtain⟨t2,rfl⟩:=need_some g3;obtain⟨w1,w2,w3⟩:=V5 (hV.suf (AE _ _)) g1;have a0:=Id (V:=V) f { p with states:=p.states ++ [s] } l2 p' l' (hV.suf (((AE _ _).trans w3).trans (AE _ _))) (by intro x hx;simp at hx;rcases hx with hx | rfl;exact h1 x hx;exact w1) h2 g4;refine⟨a0.1,a0.2.1,a0.2.2.1,?_,a0.2.2.2.2⟩;have h3:=a0.2.2.2.1;simp only[V6,length_cons] at h3 w2 ⊢;omega
  split at h
  .obtain⟨g,l1,g1,g2⟩:=bind_some h;obtain⟨w1,_,w2,w3⟩:=Jr (hV.suf (AE _ _)) g1;have a0:=Id (V:=V) f { p with fns:=p.fns ++ [g] } l1 p' l' (hV.suf (w3.trans (AE _ _))) h1 (by intro x hx;simp at hx;rcases hx with hx | rfl;exact h2 x hx;exact w1) g2;refine⟨a0.1,a0.2.1,a0.2.2.1,?_,a0.2.2.2.2⟩;have h3:=a0.2.2.2.1;simp only[Pc,length_cons] at h3 w2 ⊢;omega
  split at h
  .obtain⟨g,l1,g1,g2⟩:=bind_some h;obtain⟨w1,_,w2,w3⟩:=Jr (hV.suf (AE _ _)) g1;have a0:=Id (V:=V) f { p with fns:=p.fns ++ [g] } l1 p' l' (hV.suf (w3.trans (AE _ _))) h1 (by intro x hx;simp at hx;rcases hx with hx | rfl;exact h2 x hx;exact w1) g2;refine⟨a0.1,a0.2.1,a0.2.2.1,?_,a0.2.2.2.2⟩;have h3:=a0.2.2.2.1;simp only[Pc,length_cons] at h3 w2 ⊢;omega
  .simp[fail] at h
theorem program_sm{V:Nat->B->Nat->Prop}{l l':List Tok}{p:Pr}(hV:AllV V l)(h:program l=.inl (p,l')):WfP V p/\(prT p).length<=l.length:=by
 obtain⟨u,l1,h1,h2⟩:=bind_some h;obtain⟨v,l2,h3,h4⟩:=bind_some h2;obtain⟨u2,l3,h5,h6⟩:=bind_some h4;clear h h2 h4;obtain⟨t,rfl,_,_⟩:=Ho h1;clear h1;obtain⟨t2,rfl,hk,rfl⟩:∃t2,l1=t2 :: l2/\t2.kind=2/\t2.num=v:=by
  unfold number at h3;split at h3
  .rename_i a r;split at h3
   .rename_i hk;simp at h3;exact⟨a,by rw[h3.2],hk,h3.1⟩
   .simp[fail] at h3
  .simp[fail] at h3
 clear h3;obtain⟨t3,rfl⟩:=need_some h5;have hr:=Id (V:=V) _ _ l3 p l' (hV.suf (((AE _ _).trans (AE _ _)).trans (AE _ _))) (by simp) (by simp) h6;obtain⟨r1,r2,r3,r4,r5⟩:=hr;simp at r1;refine⟨⟨⟨t2.text,by rw[r1];exact (hV t2 (by simp)).2.1 hk⟩,r2,r3⟩,?_⟩;simp only[prT,length_cons,length_append,length_nil];simp[ssT,fsT] at r4;omega
end Px
namespace Px
open Lx (Tok B)
def IsTy(k:Nat)(y:B):Prop:=∃c,Ty k y c
end Px
def Sep(c:UInt8):Prop:=Lx.isPart c=false/\Lx.isDigit c=false/\c≠61/\c≠38/\c≠124
def At7(a b:Option UInt8):Prop:=b=a\/∀c,b=some c->Sep c
theorem V7{dot:Bool}{x:UInt8}{r l2:AQ}{k:Nat}{t:AQ}{n:Nat}(h:Lx.tokR dot (x :: r)=Lx.R.ok k t m n)
  (ht:l2.take n=(x :: r).take n) (hb:At7 (x :: r)[n]? l2[n]?):Lx.tokR dot l2=Lx.R.ok k t m n:=by
 have hk:=B4 h;obtain⟨n',rfl⟩:∃n',n=n'+1:=⟨n - 1,by omega⟩
 match l2,ht,hb with
 | [],ht,_=>simp at ht
 | y :: r2,ht,hb=>
  have a0:=ht;simp only[take_succ_cons,List.cons.injEq] at a0;obtain⟨rfl,a0⟩:=a0;simp only[Lx.tokR] at h ⊢;split at h
  .rename_i hl;rw[if_pos hl];unfold Lx.nameR at h ⊢;split at h
   .rename_i h16;simp only[Lx.R.ok,Sum.inl.injEq,Prod.mk.injEq] at h;have e:(y :: r2).takeWhile Lx.isPart=(y :: r).takeWhile Lx.isPart:=by
     rw[<-h.2.2.2] at ht hb;refine O6 ht (λ c hc=>?_);rcases hb with hb | hb
     .exact Vy (hb ▸ hc)
     .exact (hb c hc).1
    rw[e,if_pos h16];simp only[Lx.R.ok,Sum.inl.injEq,Prod.mk.injEq];exact h
   .simp[Lx.R.ok,Lx.R.bad] at h
  .rename_i hl;rw[if_neg hl];split at h
   .rename_i hd;rw[if_pos hd];unfold Lx.numberR at h ⊢;split at h
    .simp[Lx.R.ok,Lx.R.bad] at h
    .rename_i h48;split at h
     .rename_i hv;simp only[Lx.R.ok,Sum.inl.injEq,Prod.mk.injEq] at h;have e:(y :: r2).takeWhile Lx.isDigit=(y :: r).takeWhile Lx.isDigit:=by
       rw[<-h.2.2.2] at ht hb;refine O6 ht (λ c hc=>?_);rcases hb with hb | hb
       .exact Vy (hb ▸ hc)
       .exact (hb c hc).2.1
      rw[e,if_neg h48,if_pos hv];simp only[Lx.R.ok,Sum.inl.injEq,Prod.mk.injEq];exact h
     .simp[Lx.R.ok,Lx.R.bad] at h
   .rename_i hd;rw[if_neg hd];split at h
    .rename_i h34;rw[if_pos h34];exact quote_local r.length r r2 1 [] k t m (n'+1) (AD _) h (by simpa using a0)
    .rename_i h34;rw[if_neg h34];unfold Lx.markR at h ⊢;split at h
     .simp[Lx.R.ok,Lx.R.bad] at h
     .rename_i hz;simp only[Lx.R.ok,Sum.inl.injEq,Prod.mk.injEq] at h;have e:Lx.markN dot (y :: r2)=Lx.markN dot (y :: r):=by
       obtain⟨_,_,_,hn⟩:=h;clear hl hd h34 hz;rcases h2:Lx.two (y :: r) with _ | _
       .have a4:Lx.markN dot (y :: r)=if Lx.one dot y then 1 else 0:=by unfold Lx.markN;rw[h2];rfl
        have a3:n'=0:=by rw[a4] at hn;split at hn <;> omega
        subst a3;have a5:Lx.two (y :: r2)=false:=by
         rcases hr2:r2 with _ | ⟨z,r3⟩
         .rfl
         .rcases hb with hb | hb
          .rw[hr2] at hb;rcases r with _ | ⟨z',r'⟩
           .simp at hb
           .simp at hb;subst hb;simpa [Lx.two] using h2
          .have:=hb z (by rw[hr2];rfl);simp[Lx.two,this.2.2.1,this.2.2.2.1,this.2.2.2.2]
        rw[a4];unfold Lx.markN;rw[a5];rfl
       .have a6:Lx.markN dot (y :: r)=2:=by unfold Lx.markN;rw[h2];rfl
        have a3:n'=1:=by omega
        subst a3;rcases r with _ | ⟨z',r'⟩
        .simp[Lx.two] at h2
        .rcases r2 with _ | ⟨z,r3⟩
         .simp at a0
         .simp at a0;subst a0;rw[a6];unfold Lx.markN;rw[show Lx.two (y :: z :: r3)=Lx.two (y :: z :: r') from rfl,h2];rfl
      rw[e,if_neg hz];simp only[Lx.R.ok,Sum.inl.injEq,Prod.mk.injEq];rw[<-h.2.2.2] at ht;rw[ht];exact h
namespace Px
open Lx (Tok B)
inductive Ins:List Tok->List Tok->Prop
 | nil:Ins [] []
 | cons {t u:Tok} {l m:List Tok}:TS t u->Ins l m->Ins (t :: l) (u :: m)
 | wrap {t u a b:Tok} {l m:List Tok}:t.kind=2->TS t u->a.kind=4->a.text=[40]->b.kind=4->b.text=[41]->Ins l m->Ins (t :: l) (a :: u :: b :: m)
end Px
end
section
open Px (TS TSim Ins)
theorem quote_plain:∀(N:Nat) (l:AQ) (o:Nat) (acc:AQ) (k:Nat) (t:AQ) (m n:Nat),l.length<=N->Lx.quoteR l o acc=Lx.R.ok k t m n->acc.all Lx.isPlain=true->plainB t=true
 | N,[],o,acc,k,t,m,n,_,h,_=>by simp[Lx.quoteR,Lx.R.bad,Lx.R.ok] at h
 | 0,c :: r,o,acc,k,t,m,n,hN,h,_=>by simp at hN
 | N+1,c :: r,o,acc,k,t,m,n,hN,h,ha=>by
  rw[Cf] at h;simp only[length_cons] at hN;split at h
  .split at h
   .rename_i h256;simp[Lx.R.ok] at h;rw[<-h.2.1];simp only[plainB,ha,Bool.and_true,decide_eq_true_eq];exact h256
   .simp[Lx.R.ok,Lx.R.bad] at h
  .split at h
   .split at h
    .simp[Lx.R.ok,Lx.R.bad] at h
    .split at h
     .rename_i d r' hd;refine quote_plain N r' (o+2) _ k t m n (by simp at hN;omega) h ?_;have:Lx.isPlain d=true:=by
       simp only[Lx.isEsc,Bool.or_eq_true,beq_iff_eq] at hd;rcases hd with rfl | rfl <;> decide
      simp[ha,this]
     .simp[Lx.R.ok,Lx.R.bad] at h
   .split at h
    .rename_i hp;exact quote_plain N r (o+1) _ k t m n (by omega) h (by simp[ha,hp])
    .simp[Lx.R.ok,Lx.R.bad] at h
theorem La{dot:Bool}{x:UInt8}{r:AQ}{k:Nat}{t:AQ}{n:Nat}(h:Lx.tokR dot (x :: r)=Lx.R.ok k t m n):(k=3/\m=0/\plainB t=true)\/(k≠3/\t=(x :: r).take n):=by
 simp only[Lx.tokR] at h;split at h
 .unfold Lx.nameR at h;split at h
  .simp only[Lx.R.ok,Sum.inl.injEq,Prod.mk.injEq] at h;obtain⟨rfl,rfl,_,rfl⟩:=h;exact AJ ⟨by decide,(Lx.tw_take _).symm⟩
  .simp[Lx.R.ok,Lx.R.bad] at h
 .split at h
  .unfold Lx.numberR at h;split at h
   .simp[Lx.R.ok,Lx.R.bad] at h
   .split at h
    .simp only[Lx.R.ok,Sum.inl.injEq,Prod.mk.injEq] at h;obtain⟨rfl,rfl,_,rfl⟩:=h;exact AJ ⟨by decide,(Lx.tw_take _).symm⟩
    .simp[Lx.R.ok,Lx.R.bad] at h
  .split at h
   .have hk:=Bi r.length r 1 [] k t m n (AD _) h;exact AI ⟨hk.1,hk.2.1,quote_plain r.length r 1 [] k t m n (AD _) h rfl⟩
   .unfold Lx.markR at h;split at h
    .simp[Lx.R.ok,Lx.R.bad] at h
    .simp only[Lx.R.ok,Sum.inl.injEq,Prod.mk.injEq] at h;obtain⟨rfl,rfl,_,rfl⟩:=h;exact AJ ⟨by decide,rfl⟩
def Rj(k:Nat)(t:AQ):List UInt8:=if k=3 then Fi t else t
def Ay8(z:AQ):Prop:=∀c,z.head?=some c->Sep c
structure Wf(dot:Bool)(k:Nat)(t:AQ)(m:Nat):Prop where
 head:∃y r,Rj k t=y :: r/\Lx.isBlank y=false/\y≠35
 reads:∀z,Ay8 z->Lx.tokR dot (Rj k t ++ z)=Lx.R.ok k t m (Rj k t).length
theorem At8{dot:Bool}{x:UInt8}{r:AQ}{k:Nat}{t:AQ}{n:Nat}(h:Lx.tokR dot (x :: r)=Lx.R.ok k t m n)(hx:Lx.isBlank x=false/\x≠35):Wf dot k t m:=by
 have a3:=B4 h;rcases La h with⟨rfl,rfl,hp⟩ | ⟨hk,ht⟩
 .have hw:Rj 3 t=34 :: (Cv t ++ [34]):=rfl;refine⟨⟨34,_,hw,by decide,by decide⟩,λ z hz=>?_⟩;simp only[plainB,Bool.and_eq_true,decide_eq_true_eq] at hp;have ht:Lx.tokR dot (34 :: (Cv t ++ [34]))=Lx.R.ok 3 t 0 (Rj 3 t).length:=by
   have e:Lx.tokR dot (34 :: (Cv t ++ [34]))=Lx.quoteR (Cv t ++ [34]) 1 []:=by simp[Lx.tokR,Lx.isLetter,Lx.isDigit]
   rw[e,Hm t 1 [] hp.2];simp only[nil_append];rw[if_pos hp.1,hw];simp only[length_cons,length_append,length_nil];rw[show 1+(Cv t).length+1=(Cv t).length+(0+1)+1 by omega]
  refine V7 ht ?_ (AJ λ c hc=>?_)
  .rw[<-hw,take_append_of_le_length (Nat.le_refl _)]
  .rw[List.getElem?_append_right (Nat.le_refl _),Nat.sub_self] at hc;exact hz c (by rw[List.head?_eq_getElem?];exact hc)
 .have hw:Rj k t=(x :: r).take n:=by unfold Rj;rw[if_neg hk,ht]
  have a0:((x :: r).take n).length=n:=by simp only[length_take,length_cons];omega
  obtain⟨n',rfl⟩:∃n',n=n'+1:=⟨n - 1,by omega⟩;refine⟨⟨x,r.take n',by rw[hw];rfl,hx.1,hx.2⟩,λ z hz=>?_⟩;rw[hw,a0];refine V7 h ?_ (AJ λ c hc=>?_)
  .rw[take_append_of_le_length (by omega),take_take,Nat.min_self]
  .rw[List.getElem?_append_right (by omega),a0,Nat.sub_self] at hc;exact hz c (by rw[List.head?_eq_getElem?];exact hc)
theorem At9(dot:Bool)(l:AQ):∀(N i c:Nat) (ts:List Lx.Tok),l.length - i<N->i<=l.length->Lx.lexGo dot (l.drop i) i c=.inl ts->∀t∈ts,(t.kind=5/\t.text=[]/\t.num=0)\/Wf dot t.kind t.text t.num:=by
 intro N;induction N with
 | zero=>intro i c ts hN;omega
 | succ N ih=>
  intro i c ts hN hi h;obtain⟨u,a5,rfl,a8,hc,a3⟩:=E6 h;have a6:=Lx.skip_le false (l.drop i);simp only[length_drop] at a6;rcases a3 with⟨hd,rfl,rfl⟩ | ⟨x,r,k,t,m,n,hd,ht,rfl,a0⟩
  .intro t ht;simp at ht;subst ht;exact AI ⟨rfl,rfl,rfl⟩
  .have a7:=B4 ht;have a4:=congrArg List.length hd;simp at a4;rw[drop_drop,<-Nat.add_assoc] at a0;have hw:=ih (i+Lx.skipF false (l.drop i)+n) (c+1) a5 (by omega) (by omega) a0;intro t2 ht2;simp only[mem_cons] at ht2;rcases ht2 with rfl | ht2
   .exact AJ (At8 ht (Lx.skip_head false (l.drop i) x (by rw[hd];rfl)))
   .exact hw t2 ht2
end
section
open Px (TS TSim Ex exT D9 WfE WfEs lowE lv opL opX mk4 wd dg within Bv)
open Lx (B Tok)
def m1:B:=[40,41,123,125,91,93,58,59,44,43,45,42,47,37]
def VW(k:Nat)(t:B)(m:Nat):Prop:=Wf true k t m
def withinS(b:Bool)(s:B):B:=if b then 40 :: (s ++ [41]) else s
def commasS:List B->B
 | []=>[]
 | [a]=>a
 | a :: b :: r=>a ++ 44 :: 32 :: commasS (b :: r)
def Mu(k o n:Nat)(t:B)(args:List Ex)(xs:List B):B:=
 if k=1 then dg n else if k=2 then (if n=1 then [116,114,117,101] else [102,97,108,115,101]) else if k=3 then Fi t else if k=6 then t
 else if k=7 then t ++ 40 :: (commasS xs ++ [41])
 else if k=12 then withinS (lowE 7 (args.getD 0 default)) (xs.getD 0 []) ++ 91 :: (xs.getD 1 [] ++ [93])
 else if k=13 then 45 :: withinS (lowE 6 (args.getD 0 default)) (xs.getD 0 [])
 else if k=14 then 33 :: withinS (lowE 6 (args.getD 0 default)) (xs.getD 0 [])
 else withinS (lowE (lv o) (args.getD 0 default)) (xs.getD 0 []) ++ 32 :: (opX o ++ 32 :: withinS (lowE (opL o+1) (args.getD 1 default)) (xs.getD 1 []))
mutual
def exS:Ex->B
 | .mk k o n t args _=>Mu k o n t args (Pd args)
def Pd:List Ex->List B
 | []=>[]
 | e :: r=>exS e :: Pd r
end
theorem Rk:∀l,Pd l=l.map exS
 | []=>by simp[Pd]
 | e :: r=>by simp[Pd,Rk r]
end
section
open Px (TS TSim Ex St Sl Pr exT stT Ci blk WfE WfS Cg WfSl WfF WfP NmOk Ty tyT slT fnT ssT fsT prT Bc0 mk4 wd dg Bv)
open Lx (B Tok)
def blkS(s ind:B)(none:Bool):B:=if none then [123,125] else 123 :: 10 :: (s ++ (ind ++ [125]))
def Mw(k:Nat)(n:B)(es:List B)(b c:B)(none:Bool):B:=
 if k=1 then [108,101,116,32] ++ (n ++ ([32,61,32] ++ (es.getD 0 [] ++ [59])))
 else if k=2 then (if es.length=1 then [115,101,116,32] ++ (n ++ ([32,61,32] ++ (es.getD 0 [] ++ [59]))) else [115,101,116,32] ++ (n ++ ([91] ++ (es.getD 0 [] ++ ([93,32,61,32] ++ (es.getD 1 [] ++ [59]))))))
 else if k=3 then [100,101,108,32] ++ (n ++ ([91] ++ (es.getD 0 [] ++ [93,59])))
 else if k=4 then [105,102,32] ++ (es.getD 0 [] ++ ([32] ++ (b ++ if none then [] else [32,101,108,115,101,32] ++ c)))
 else if k=5 then [102,111,114,32] ++ (n ++ ([32,116,111,32] ++ (es.getD 0 [] ++ ([32] ++ b))))
 else [114,101,116,32] ++ (es.getD 0 [] ++ [59])
mutual
def stS:St->B->B
 | .mk k n es b c _,ind=>Mw k n (es.map exS) (blkS (Rl b ind) ind b.isEmpty) (blkS (Rl c ind) ind c.isEmpty) c.isEmpty
def Rl:List St->B->B
 | [],_=>[]
 | s :: r,ind=>ind ++ ([9] ++ (stS s (ind ++ [9]) ++ ([10] ++ Rl r ind)))
end
def slS(s:Sl):B:=s.name ++ ([58,32] ++ s.type)
def fnS(f:Px.Fn):B:=f.name ++ ([40] ++ (commasS (f.params.map slS) ++ ([41,58,32] ++ (f.result ++ ([32] ++ (blkS (Rl f.body []) [] f.body.isEmpty ++ [10]))))))
def ssS:List Sl->B
 | []=>[]
 | s :: r=>[115,116,97,116,101,32] ++ (slS s ++ ([59,10] ++ ssS r))
def fsS:List Px.Fn->B
 | []=>[]
 | f :: r=>(if f.on then [111,110,32] else [102,110,32]) ++ (fnS f ++ fsS r)
def prS(p:Pr):B:=[118,101,114,115,105,111,110,32] ++ (dg p.version ++ ([59,10] ++ (ssS p.states ++ fsS p.fns)))
end
section
open Px (TSim Ex St Sl Pr exT WfE WfP prT lowE lv opL opX dg)
open Lx (B Tok)
theorem V8{k:Nat}{t:B}(hk:k=1\/k=3)(h:Wf true k t m):m=0:=by
 have h1:=h.reads [] (λ c hc=>by simp at hc);obtain⟨y,r,e,_,_⟩:=h.head;rw[append_nil,e] at h1;rcases La h1 with h2 | h2
 .exact h2.2.1
 .have a0:k=1:=by rcases hk with h | h;exact h;exact absurd h h2.1
  subst a0;simp only[Lx.tokR] at h1;split at h1
  .unfold Lx.nameR at h1;split at h1
   .simp only[Lx.R.ok,Sum.inl.injEq,Prod.mk.injEq] at h1;exact h1.2.2.1.symm
   .simp[Lx.R.ok,Lx.R.bad] at h1
  split at h1
  .unfold Lx.numberR at h1;split at h1
   .simp[Lx.R.ok,Lx.R.bad] at h1
   split at h1 <;> simp[Lx.R.ok,Lx.R.bad] at h1
  split at h1
  .have:=Bi r.length r 1 [] 1 _ m _ (AD _) h1;omega
  .unfold Lx.markR at h1;split at h1 <;> simp[Lx.R.ok,Lx.R.bad] at h1
theorem Aa5{b:B}{ts:List Tok}(h:Lx.lex true b=.inl ts):Px.AllV VW ts:=by
 unfold Lx.lex at h;split at h
 .simp at h
 .have hw:=At9 true b (b.length+1) 0 0 ts (by omega) (by omega) (by simpa using h);intro t ht;rcases hw t ht with⟨h5,_,_⟩ | hw
  .exact⟨λ h1=>by omega,λ h1=>by omega,λ h1=>by omega⟩
  .refine⟨λ h1=>?_,λ h1=>?_,λ h1=>?_⟩
   .rw[h1] at hw;have:=V8 (AI rfl) hw;rw[this] at hw;exact hw
   .rw[h1] at hw;exact hw
   .rw[h1] at hw;have:=V8 (AJ rfl) hw;rw[this] at hw;exact hw
theorem T1{b:B}{p:Pr}(h:Px.parse b=.inl p):WfP VW p/\∃ts,Lx.lex true b=.inl ts/\(prT p).length<=ts.length/\ts.length<=4096:=by
 unfold Px.parse at h;rcases hl:Lx.lex true b with ts | x
 .rw[hl] at h;simp only at h;rcases hp:Px.program ts with⟨q,l'⟩ | x
  .rw[hp] at h;simp at h;subst h;obtain⟨h1,h2⟩:=Px.program_sm (Aa5 hl) hp;exact⟨h1,ts,rfl,h2,Vz hl⟩
  .rw[hp] at h;simp at h
 .rw[hl] at h;simp at h
end
section
open Px (Ex St Sl Pr exT WfE WfS Cg WfSl WfF WfP NmOk Ty IsTy lowE lv opL opX dg)
open Lx (B Tok)
inductive GE where
 | mk (kind op num:Int) (text:B) (args:List GE)
inductive GS where
 | mk (kind:Int) (name:B) (es:List GE) (body other:List GS)
structure GF where
 name:B
 on:Bool
 params:List (B × B)
 result:B
 body:List GS
structure GP where
 version:Int
 states:List (B × B)
 fns:List GF
instance:Inhabited GE:=⟨.mk 0 0 0 [] []⟩
def GE.k:GE->Int
 | .mk k _ _ _ _=>k
def GE.o:GE->Int
 | .mk _ o _ _ _=>o
def gL(o:Int):Nat:=if 0<=o then opL o.toNat else 0
def gName(t:B):Bool:=wordB t && !Px.reserved t
open Classical in
noncomputable def gType (y:B):Bool:=if IsTy 4 y then true else false
def Bn(n:Nat)(e:GE):Bool:=(e.k == 15 && decide (gL e.o<n)) || (decide (6<n) && (e.k == 13 || e.k == 14))
def gKS(k o n:Int)(t:B)(args:List GE)(xs:List B):Option B:=
 if k=1 then (if xs.length=0/\0<=n then some (dg n.toNat) else none)
 else if k=2 then (if xs.length=0/\0<=n/\n<=1 then some (if n=1 then [116,114,117,101] else [102,97,108,115,101]) else none)
 else if k=3 then (if xs.length=0/\plainB t=true then some (Fi t) else none)
 else if k=6 then (if xs.length=0/\gName t=true then some t else none)
 else if k=7 then (if gName t=true then some (t ++ 40 :: (commasS xs ++ [41])) else none)
 else if k=12 then (if xs.length=2 then some (withinS (Bn 7 (args.getD 0 default)) (xs.getD 0 []) ++ 91 :: (xs.getD 1 [] ++ [93])) else none)
 else if k=13 then (if xs.length=1 then some (45 :: withinS (Bn 6 (args.getD 0 default)) (xs.getD 0 [])) else none)
 else if k=14 then (if xs.length=1 then some (33 :: withinS (Bn 6 (args.getD 0 default)) (xs.getD 0 [])) else none)
 else if k=15 then (if xs.length=2/\gL o≠0 then some (withinS (Bn (lv o.toNat) (args.getD 0 default)) (xs.getD 0 []) ++ 32 :: (opX o.toNat ++ 32 :: withinS (Bn (gL o+1) (args.getD 1 default)) (xs.getD 1 []))) else none)
 else none
mutual
def gE:GE->Option B
 | .mk k o n t args=>match gEs args with
  | some xs=>gKS k o n t args xs
  | none=>none
def gEs:List GE->Option (List B)
 | []=>some []
 | e :: r=>match gE e,gEs r with
  | some x,some xs=>some (x :: xs)
  | _,_=>none
end
def gBlk(s:Option B)(ind:B)(none:Bool):Option B:=s.map λ s=>blkS s ind none
def gSK(k:Int)(n:B)(es:List GE)(b c:Option B)(none:Bool):Option B:=
 if k<1\/6<k\/es.length<1\/2<es.length\/(es.length=2/\k≠2) then .none
 else if k≠4/\k≠6/\gName n=false then .none
 else match gE (es.getD 0 default) with
  | .none=>.none
  | some x=>
   if k=1 then some ([108,101,116,32] ++ (n ++ ([32,61,32] ++ (x ++ [59]))))
   else if k=2 then (if es.length=1 then some ([115,101,116,32] ++ (n ++ ([32,61,32] ++ (x ++ [59])))) else (gE (es.getD 1 default)).map λ y=>[115,101,116,32] ++ (n ++ ([91] ++ (x ++ ([93,32,61,32] ++ (y ++ [59]))))))
   else if k=3 then some ([100,101,108,32] ++ (n ++ ([91] ++ (x ++ [93,59]))))
   else if k=6 then some ([114,101,116,32] ++ (x ++ [59]))
   else match b with
    | .none=>.none
    | some b=>
     if k=5 then some ([102,111,114,32] ++ (n ++ ([32,116,111,32] ++ (x ++ ([32] ++ b)))))
     else if none then some ([105,102,32] ++ (x ++ ([32] ++ b)))
     else c.map λ c=>[105,102,32] ++ (x ++ ([32] ++ (b ++ ([32,101,108,115,101,32] ++ c))))
mutual
def gSt:GS->B->Option B
 | .mk k n es b c,ind=>gSK k n es (gBlk (gSts b ind) ind b.isEmpty) (gBlk (gSts c ind) ind c.isEmpty) c.isEmpty
def gSts:List GS->B->Option B
 | [],_=>some []
 | s :: r,ind=>match gSt s (ind ++ [9]),gSts r ind with
  | some x,some y=>some (ind ++ ([9] ++ (x ++ ([10] ++ y))))
  | _,_=>none
end
noncomputable def gSl (s:B × B):Option B:=if gName s.1=true/\gType s.2=true then some (s.1 ++ ([58,32] ++ s.2)) else none
noncomputable def Pe:List (B × B)->Option (List B)
 | []=>some []
 | s :: r=>match gSl s,Pe r with
  | some x,some xs=>some (x :: xs)
  | _,_=>none
noncomputable def gFn (f:GF):Option B:=
 if gName f.name=true/\gType f.result=true then
  match Pe f.params,gBlk (gSts f.body []) [] f.body.isEmpty with
  | some ps,some b=>some ((if f.on then [111,110,32] else [102,110,32]) ++ (f.name ++ ([40] ++ (commasS ps ++ ([41,58,32] ++ (f.result ++ ([32] ++ (b ++ [10]))))))))
  | _,_=>none
 else none
noncomputable def gSs:List (B × B)->Option B
 | []=>some []
 | s :: r=>match gSl s,gSs r with
  | some x,some y=>some ([115,116,97,116,101,32] ++ (x ++ ([59,10] ++ y)))
  | _,_=>none
noncomputable def gFs:List GF->Option B
 | []=>some []
 | f :: r=>match gFn f,gFs r with
  | some x,some y=>some (x ++ y)
  | _,_=>none
noncomputable def gPr (p:GP):Option B:=
 if 0<=p.version then
  match gSs p.states,gFs p.fns with
  | some x,some y=>some ([118,101,114,115,105,111,110,32] ++ (dg p.version.toNat ++ ([59,10] ++ (x ++ y))))
  | _,_=>none
 else none
noncomputable def Nj (form:Nat) (p:GP):B × Nat:=
 match gPr p with
 | none=>([],form)
 | some s=>if 16384<s.length then ([],3) else (s,0)
/- What was read,aS0 such a program. -/
mutual
def Mx:Ex->GE
 | .mk k o n t args _=>.mk k o n t (B6 args)
def B6:List Ex->List GE
 | []=>[]
 | e :: r=>Mx e :: B6 r
end
mutual
def Pf:St->GS
 | .mk k n es b c _=>.mk k n (B6 es) (ofSts b) (ofSts c)
def ofSts:List St->List GS
 | []=>[]
 | s :: r=>Pf s :: ofSts r
end
def Pg(s:Sl):B × B:=(s.name,s.type)
def ofFn(f:Px.Fn):GF:=⟨f.name,f.on,f.params.map Pg,f.result,ofSts f.body⟩
def ofPr(p:Pr):GP:=⟨p.version,p.states.map Pg,p.fns.map ofFn⟩
theorem Nk:∀l,B6 l=l.map Mx
 | []=>by simp[B6]
 | e :: r=>by simp[B6,Nk r]
theorem Nl:∀l,ofSts l=l.map Pf
 | []=>by simp[ofSts]
 | e :: r=>by simp[ofSts,Nl r]
theorem gL_nat(o:Nat):gL (o:Int)=opL o:=by simp[gL]
theorem Ph(k x:Nat):((k:Int) == (x:Int))=(k == x):=by
 rcases h:(k == x) with _ | _
 .simp at h ⊢;omega
 .simp at h ⊢;omega
theorem Kc(n:Nat)(e:Ex):Bn n (Mx e)=lowE n e:=by
 match e with
 | .mk k o m t a p=>
  rw[Mx];show ((((k:Int) == ((15:Nat):Int)) && decide (gL (o:Int)<n)) || (decide (6<n) && (((k:Int) == ((13:Nat):Int)) || ((k:Int) == ((14:Nat):Int)))))=(((k == 15) && decide (opL o<n)) || (decide (6<n) && ((k == 13) || (k == 14))));rw[Ph,Ph,Ph,gL_nat]
theorem Ie{t:B}(h:VW 1 t m):wordB t=true:=by
 have h1:=h.reads [] (λ c hc=>by simp at hc);obtain⟨y,r,e,_,_⟩:=h.head;have hw:Rj 1 t=t:=rfl;rw[hw] at e h1;rw[append_nil] at h1;rw[e] at h1 ⊢;simp only[Lx.tokR] at h1;split at h1
 .rename_i hl;unfold Lx.nameR at h1;split at h1
  .rename_i h16;simp only[Lx.R.ok,Sum.inl.injEq,Prod.mk.injEq] at h1;rw[h1.2.1] at h16;simp only[wordB,Bool.and_eq_true,decide_eq_true_eq];refine⟨h16,hl,?_⟩;rw[all_eq_true];intro c hc;rw[<-h1.2.1] at hc;exact Lx.tw_mem c hc
  .simp[Lx.R.ok,Lx.R.bad] at h1
 split at h1
 .unfold Lx.numberR at h1;split at h1
  .simp[Lx.R.ok,Lx.R.bad] at h1
  split at h1 <;> simp[Lx.R.ok,Lx.R.bad] at h1
 split at h1
 .have:=Bi r.length r 1 [] 1 _ m _ (AD _) h1;omega
 .unfold Lx.markR at h1;split at h1 <;> simp[Lx.R.ok,Lx.R.bad] at h1
theorem Db{t:B}(h:NmOk VW t):gName t=true:=by simp[gName,Ie h.2,h.1]
theorem I5{t:B}(h:VW 3 t m):plainB t=true:=by
 have h1:=h.reads [] (λ c hc=>by simp at hc);obtain⟨y,r,e,_,_⟩:=h.head;rw[append_nil,e] at h1;rcases La h1 with h2 | h2
 .exact h2.2.2
 .exact absurd rfl h2.1
mutual
theorem Ha:∀e:Ex,WfE VW e->gE (Mx e)=some (exS e)
 | .mk k o n t args p,hw=>by
  rw[WfE] at hw;obtain⟨hf,hs⟩:=hw;rw[Mx,gE,Aa6 args hs];simp only;have a0:(Pd args).length=args.length:=by rw[Rk];simp
  rw[exS];rcases hf with h | h | h | h | h | h | h | h
  .obtain⟨rfl,rfl,rfl,hl,_⟩:=h;simp[gKS,Mu,a0,hl]
  .obtain⟨rfl,rfl,rfl,hl,hn⟩:=h;rcases (show n=0\/n=1 by omega) with rfl | rfl <;> simp[gKS,Mu,a0,hl]
  .obtain⟨rfl,rfl,rfl,hl,hv⟩:=h;simp[gKS,Mu,a0,hl,I5 hv]
  .obtain⟨rfl,rfl,rfl,hl,hr,hv⟩:=h;simp[gKS,Mu,a0,hl,Db ⟨hr,hv⟩]
  .obtain⟨rfl,rfl,rfl,hr,hv⟩:=h;simp[gKS,Mu,Db ⟨hr,hv⟩]
  .obtain⟨rfl,rfl,rfl,rfl,hl⟩:=h
   match args,hl,a0 with
   | [a,b],_,a0=>
    simp[gKS,Mu,a0,B6,Kc]
  .obtain⟨hk,rfl,rfl,rfl,hl⟩:=h
   match args,hl,a0 with
   | [a],_,a0=>
    rcases hk with rfl | rfl
    .simp[gKS,Mu,a0,B6,Kc]
    .simp[gKS,Mu,a0,B6,Kc]
  .obtain⟨rfl,h1,h2,rfl,rfl,hl⟩:=h
   match args,hl,a0 with
   | [a,b],_,a0=>
    have hp:=(Px.opL_pos h1 h2).1;have hg:gL (o:Int)=opL o:=by simp[gL]
    have a3:opL o≠0:=by omega
    simp[gKS,Mu,a0,B6,Kc,hg,a3]
theorem Aa6:∀l:List Ex,Px.WfEs VW l->gEs (B6 l)=some (Pd l)
 | [],_=>by simp[B6,gEs,Pd]
 | e :: r,hw=>by
  rw[Px.WfEs] at hw;rw[B6,gEs,Ha e hw.1,Aa6 r hw.2,Pd]
end
theorem Hp(b:List St):(ofSts b).isEmpty=b.isEmpty:=by
 rcases b with _ | ⟨s,r⟩ <;> simp[ofSts]
theorem Au0{k:Nat}{n:B}{es:List Ex}{b c:List St}{bs cs:B}(hf:Px.FormS VW k n es.length b c)(he:∀e∈es,WfE VW e):gSK k n (B6 es) (some bs) (some cs) c.isEmpty=some (Mw k n (es.map exS) bs cs c.isEmpty):=by
 rcases hf with h | h | h | h | h | h
 .obtain⟨rfl,hn,hl,rfl,rfl⟩:=h
  match es,hl,he with
  | [x],_,he=>simp[gSK,Mw,B6,Db hn,Ha x (he x (by simp))]
 .obtain⟨rfl,hn,hl,rfl,rfl⟩:=h
  match es,hl,he with
  | [x],_,he=>simp[gSK,Mw,B6,Db hn,Ha x (he x (by simp))]
  | [y,x],_,he=>simp[gSK,Mw,B6,Db hn,Ha y (he y (by simp)),Ha x (he x (by simp))]
 .obtain⟨rfl,hn,hl,rfl,rfl⟩:=h
  match es,hl,he with
  | [x],_,he=>simp[gSK,Mw,B6,Db hn,Ha x (he x (by simp))]
 .obtain⟨rfl,rfl,hl⟩:=h
  match es,hl,he with
  | [x],_,he=>
   rcases c with _ | ⟨c1,c2⟩
   .simp[gSK,Mw,B6,Ha x (he x (by simp))]
   .simp[gSK,Mw,B6,Ha x (he x (by simp))]
 .obtain⟨rfl,hn,hl,rfl⟩:=h
  match es,hl,he with
  | [x],_,he=>simp[gSK,Mw,B6,Db hn,Ha x (he x (by simp))]
 .obtain⟨rfl,rfl,hl,rfl,rfl⟩:=h
  match es,hl,he with
  | [x],_,he=>simp[gSK,Mw,B6,Ha x (he x (by simp))]
mutual
theorem Au1:∀(s:St) (ind:B),WfS VW s->gSt (Pf s) ind=some (stS s ind)
 | .mk k n es b c p,ind,hw=>by
  rw[WfS] at hw;obtain⟨hf,he,hb,hc⟩:=hw;rw[Pf,gSt,Kd b ind hb,Kd c ind hc,Hp,Hp,stS];exact Au0 hf he
theorem Kd:∀(l:List St) (ind:B),Cg VW l->gSts (ofSts l) ind=some (Rl l ind)
 | [],ind,_=>by simp[ofSts,gSts,Rl]
 | s :: r,ind,hw=>by
  rw[Cg] at hw;rw[ofSts,gSts,Au1 s _ hw.1,Kd r ind hw.2,Rl]
end
theorem Aa7{s:Sl}(h:WfSl VW s):gSl (Pg s)=some (slS s):=by
 obtain⟨hn,c,hc⟩:=h;have ht:gType s.type=true:=by unfold gType;rw[if_pos ⟨c,hc⟩]
 simp[gSl,Pg,slS,Db hn,ht]
theorem V9:∀{l:List Sl},(∀s∈l,WfSl VW s)->Pe (l.map Pg)=some (l.map slS)
 | [],_=>by simp[Pe]
 | s :: r,h=>by
  rw[map_cons,Pe,Aa7 (h s (by simp)),V9 (λ x hx=>h x (by simp[hx]))];simp
theorem Aa8:∀{l:List Sl},(∀s∈l,WfSl VW s)->gSs (l.map Pg)=some (ssS l)
 | [],_=>by simp[gSs,ssS]
 | s :: r,h=>by
  rw[map_cons,gSs,Aa7 (h s (by simp)),Aa8 (λ x hx=>h x (by simp[hx])),ssS]
theorem Au2{f:Px.Fn}(h:WfF VW f):gFn (ofFn f)=some ((if f.on then [111,110,32] else [102,110,32]) ++ fnS f):=by
 obtain⟨hn,hp,⟨c,hc⟩,hb,hd⟩:=h;have ht:gType f.result=true:=by unfold gType;rw[if_pos ⟨c,hc⟩]
 have e1:Pe (ofFn f).params=some (f.params.map slS):=V9 hp;have e2:gBlk (gSts (ofFn f).body []) [] (ofFn f).body.isEmpty=some (blkS (Rl f.body []) [] f.body.isEmpty):=by
  show gBlk (gSts (ofSts f.body) []) [] (ofSts f.body).isEmpty=_;rw[Kd f.body [] hb,Hp];rfl
 rw[gFn,if_pos (show gName (ofFn f).name=true/\gType (ofFn f).result=true from ⟨Db hn,ht⟩),e1,e2];rfl
theorem Aa9:∀{l:List Px.Fn},(∀f∈l,WfF VW f)->gFs (l.map ofFn)=some (fsS l)
 | [],_=>by simp[gFs,fsS]
 | f :: r,h=>by
  rw[map_cons,gFs,Au2 (h f (by simp)),Aa9 (λ x hx=>h x (by simp[hx])),fsS];simp
theorem Au3{p:Pr}(h:WfP VW p):gPr (ofPr p)=some (prS p):=by
 obtain⟨_,hs,hf⟩:=h;have e1:gSs (ofPr p).states=some (ssS p.states):=Aa8 hs;have e2:gFs (ofPr p).fns=some (fsS p.fns):=Aa9 hf;rw[gPr,if_pos (show 0<=(ofPr p).version by show (0:Int)<=(p.version:Int);omega),e1,e2];rfl
end
section
open Go.RowKit
mutual
def IsGE(B:AS)(w:World):GE->List Value->Prop
 | .mk k o n t args,cs=>∃(x p:Int) (y:ByteArray) (sl:Value) (row:AR),cs=[iv k,iv o,iv n,.string ⟨t.toArray⟩,iv x,.string y,sl,iv p]/\SlRow B w 8 sl args.length row/\Bx B w args row
def Bx(B:AS)(w:World):List GE->List Value->Prop
 | [],cs=>cs=[]
 | e :: r,cs=>∃c1 c2,cs=c1 ++ c2/\IsGE B w e c1/\Bx B w r c2
end
mutual
def IsGS(B:AS)(w:World):GS->List Value->Prop
 | .mk k n es b c,cs=>∃(x y p:Int) (f:Bool) (s1 s2 s3:Value) (r1 r2 r3:AR),cs=[iv k,.string ⟨n.toArray⟩,iv x,.bool f,iv y,s1,s2,s3,iv p]/\SlRow B w 8 s1 es.length r1/\Bx B w es r1/\SlRow B w 9 s2 b.length r2/\Bw B w b r2/\SlRow B w 9 s3 c.length r3/\Bw B w c r3
def Bw(B:AS)(w:World):List GS->List Value->Prop
 | [],cs=>cs=[]
 | e :: r,cs=>∃c1 c2,cs=c1 ++ c2/\IsGS B w e c1/\Bw B w r c2
end
def Rm(s:List UInt8 × List UInt8)(cs:AR):Prop:=∃p:Int,cs=[.string ⟨s.1.toArray⟩,.string ⟨s.2.toArray⟩,iv p]
def Js:List (List UInt8 × List UInt8)->List Value->Prop
 | [],cs=>cs=[]
 | e :: r,cs=>∃c1 c2,cs=c1 ++ c2/\Rm e c1/\Js r c2
def Ig(B:AS)(w:World)(l:List (List UInt8 × List UInt8))(v:Value):Prop:=∃row,SlRow B w 3 v l.length row/\Js l row
def Bz(B:AS)(w:World)(l:List GS)(v:Value):Prop:=∃row,SlRow B w 9 v l.length row/\Bw B w l row
def G5(B:AS)(w:World)(f:GF)(cs:AR):Prop:=
 ∃(ps bs:Value) (p:Int),cs=[.string ⟨f.name.toArray⟩,.bool f.on,ps,.string ⟨f.result.toArray⟩,sZ,bs,iv p]/\Ig B w f.params ps/\Bz B w f.body bs
def Ef(B:AS)(w:World):List GF->List Value->Prop
 | [],cs=>cs=[]
 | e :: r,cs=>∃c1 c2,cs=c1 ++ c2/\G5 B w e c1/\Ef B w r c2
def Lb(B:AS)(w:World)(l:List GF)(v:Value):Prop:=∃row,SlRow B w 7 v l.length row/\Ef B w l row
def Pi(B:AS)(w:World)(p:GP)(v:Value):Prop:=∃ss fs,v=.agg #[iv p.version,ss,fs]/\Ig B w p.states ss/\Lb B w p.fns fs
mutual
theorem IsGE.since{B:AS}{w w':World}(s:Since B w w'):∀{e:GE} {cs:AR},IsGE B w e cs->IsGE B w' e cs
 | .mk k o n t args,cs,h=>by
  rw[IsGE] at h ⊢;obtain⟨x,p,y,sl,row,hc,hr,ha⟩:=h;exact⟨x,p,y,sl,row,hc,hr.since s,Bx.since s ha⟩
theorem Bx.since{B:AS}{w w':World}(s:Since B w w'):∀{l:List GE} {cs:AR},Bx B w l cs->Bx B w' l cs
 | [],cs,h=>by rw[Bx] at h ⊢;exact h
 | e :: r,cs,h=>by
  rw[Bx] at h ⊢;obtain⟨c1,c2,hc,h1,h2⟩:=h;exact⟨c1,c2,hc,IsGE.since s h1,Bx.since s h2⟩
end
mutual
theorem IsGS.since{B:AS}{w w':World}(s:Since B w w'):∀{e:GS} {cs:AR},IsGS B w e cs->IsGS B w' e cs
 | .mk k n es b c,cs,h=>by
  rw[IsGS] at h ⊢;obtain⟨x,y,p,f,s1,s2,s3,r1,r2,r3,hc,a1,a2,a3,a4,a5,a6⟩:=h;exact⟨x,y,p,f,s1,s2,s3,r1,r2,r3,hc,a1.since s,a2.since s,a3.since s,Bw.since s a4,a5.since s,Bw.since s a6⟩
theorem Bw.since{B:AS}{w w':World}(s:Since B w w'):∀{l:List GS} {cs:AR},Bw B w l cs->Bw B w' l cs
 | [],cs,h=>by rw[Bw] at h ⊢;exact h
 | e :: r,cs,h=>by
  rw[Bw] at h ⊢;obtain⟨c1,c2,hc,h1,h2⟩:=h;exact⟨c1,c2,hc,IsGS.since s h1,Bw.since s h2⟩
end
theorem Ig.since{B:AS}(s:Since B w w'){l:List (List UInt8 × List UInt8)}(h:Ig B w l v):Ig B w' l v:=by
 obtain⟨row,h1,h2⟩:=h;exact⟨row,h1.since s,h2⟩
theorem Bz.since{B:AS}(s:Since B w w'){l:List GS}(h:Bz B w l v):Bz B w' l v:=by
 obtain⟨row,h1,h2⟩:=h;exact⟨row,h1.since s,h2.since s⟩
theorem G5.since{B:AS}(s:Since B w w'){f:GF}(h:G5 B w f cs):G5 B w' f cs:=by
 obtain⟨ps,bs,p,h1,h2,h3⟩:=h;exact⟨ps,bs,p,h1,h2.since s,h3.since s⟩
theorem Ef.since{B:AS}{w w':World}(s:Since B w w'):∀{l:List GF} {cs:AR},Ef B w l cs->Ef B w' l cs
 | [],cs,h=>h
 | e :: r,cs,h=>by
  obtain⟨c1,c2,hc,h1,h2⟩:=h;exact⟨c1,c2,hc,h1.since s,Ef.since s h2⟩
theorem Lb.since{B:AS}(s:Since B w w'){l:List GF}(h:Lb B w l v):Lb B w' l v:=by
 obtain⟨row,h1,h2⟩:=h;exact⟨row,h1.since s,h2.since s⟩
theorem Pi.since{B:AS}(s:Since B w w'){p:GP}(h:Pi B w p v):Pi B w' p v:=by
 obtain⟨ss,fs,hv,h1,h2⟩:=h;exact⟨ss,fs,hv,h1.since s,h2.since s⟩
theorem IsGE.len{B:AS}{e:GE}(h:IsGE B w e cs):cs.length=8:=by
 cases e;rw[IsGE] at h;obtain⟨x,p,y,sl,row,hc,_⟩:=h;rw[hc];rfl
theorem IsGS.len{B:AS}{e:GS}(h:IsGS B w e cs):cs.length=9:=by
 cases e;rw[IsGS] at h;obtain⟨x,y,p,f,s1,s2,s3,r1,r2,r3,hc,_⟩:=h;rw[hc];rfl
theorem Rm.len{e:List UInt8 × List UInt8}(h:Rm e cs):cs.length=3:=by
 obtain⟨p,hc⟩:=h;rw[hc];rfl
theorem G5.len{B:AS}{e:GF}(h:G5 B w e cs):cs.length=7:=by
 obtain⟨ps,bs,p,hc,_⟩:=h;rw[hc];rfl
theorem Ih{α:Type}{sz:Nat}{P:α->List Value->Prop}{A:List α->List Value->Prop}(a3:∀{e cs},P e cs->cs.length=sz)(a0:∀{e r cs},A (e :: r) cs->∃c1 c2,cs=c1 ++ c2/\P e c1/\A r c2):∀{l:List α} {row:AR} {i:Nat} {e:α},A l row->l[i]?=e->∃cs,P e cs/\∀j,j<sz->row[i*sz+j]?=cs[j]?
 | [],row,i,e,h,hi=>by simp at hi
 | a :: r,row,0,e,h,hi=>by
  obtain⟨c1,c2,hc,h1,h2⟩:=a0 h;simp at hi;subst hi;exact⟨c1,h1,λ j hj=>by rw[hc,List.getElem?_append_left (by have:=a3 h1;omega)];simp⟩
 | a :: r,row,i+1,e,h,hi=>by
  obtain⟨c1,c2,hc,h1,h2⟩:=a0 h;obtain⟨cs,k1,k2⟩:=Ih a3 a0 h2 (by simpa using hi);refine⟨cs,k1,λ j hj=>?_⟩;have hl:=a3 h1;have hm:(i+1)*sz=i*sz+sz:=by rw[Nat.add_mul,Nat.one_mul]
  rw[hc,List.getElem?_append_right (by omega),<-k2 j hj];congr 1;omega
theorem Bx.cons{B:AS}{e:GE}{r:List GE}(h:Bx B w (e :: r) cs):∃c1 c2,cs=c1 ++ c2/\IsGE B w e c1/\Bx B w r c2:=by rw[Bx] at h;exact h
theorem Bw.cons{B:AS}{e:GS}{r:List GS}(h:Bw B w (e :: r) cs):∃c1 c2,cs=c1 ++ c2/\IsGS B w e c1/\Bw B w r c2:=by rw[Bw] at h;exact h
theorem Bx.get{B:AS}{l:List GE}{row:AR}{e:GE}(h:Bx B w l row)(hi:l[i]?=e):∃cs,IsGE B w e cs/\∀j,j<8->row[i*8+j]?=cs[j]?:=
 Ih (P:=IsGE B w) (A:=Bx B w) IsGE.len Bx.cons h hi
theorem Bw.get{B:AS}{l:List GS}{row:AR}{e:GS}(h:Bw B w l row)(hi:l[i]?=e):∃cs,IsGS B w e cs/\∀j,j<9->row[i*9+j]?=cs[j]?:=
 Ih (P:=IsGS B w) (A:=Bw B w) IsGS.len Bw.cons h hi
theorem Js.get{l:List (List UInt8 × List UInt8)}{row:AR}{e:List UInt8 × List UInt8}(h:Js l row)(hi:l[i]?=e):∃cs,Rm e cs/\∀j,j<3->row[i*3+j]?=cs[j]?:=
 Ih (P:=Rm) (A:=Js) Rm.len (λ h=>h) h hi
theorem Ef.get{B:AS}{l:List GF}{row:AR}{e:GF}(h:Ef B w l row)(hi:l[i]?=e):∃cs,G5 B w e cs/\∀j,j<7->row[i*7+j]?=cs[j]?:=
 Ih (P:=G5 B w) (A:=Ef B w) G5.len (λ h=>h) h hi
/- What was read lies so. -/
theorem Ii(l:List Px.Ex):(B6 l).length=l.length:=by rw[Nk];simp
theorem Fl(l:List Px.St):(ofSts l).length=l.length:=by rw[Nl];simp
mutual
theorem IsEx.any{B:AS}{w:World}:∀{e:Px.Ex} {cs:AR},IsEx B w e cs->IsGE B w (Mx e) cs
 | .mk k o n t args p,cs,h=>by
  rw[IsEx] at h;rw[Mx,IsGE];obtain⟨sl,row,hc,hr,ha⟩:=h;exact⟨0,p,⟨#[]⟩,sl,row,hc,by rw[Ii];exact hr,Ai.any ha⟩
theorem Ai.any{B:AS}{w:World}:∀{l:List Px.Ex} {cs:AR},Ai B w l cs->Bx B w (B6 l) cs
 | [],cs,h=>by rw[Ai] at h;rw[B6,Bx];exact h
 | e :: r,cs,h=>by
  rw[Ai] at h;rw[B6,Bx];obtain⟨c1,c2,hc,h1,h2⟩:=h;exact⟨c1,c2,hc,IsEx.any h1,Ai.any h2⟩
end
mutual
theorem IsSt.any{B:AS}{w:World}:∀{e:Px.St} {cs:AR},IsSt B w e cs->IsGS B w (Pf e) cs
 | .mk k n es b c p,cs,h=>by
  rw[IsSt] at h;rw[Pf,IsGS];obtain⟨s1,s2,s3,r1,r2,r3,hc,a1,a2,a3,a4,a5,a6⟩:=h;exact⟨0,0,p,false,s1,s2,s3,r1,r2,r3,hc,by rw[Ii];exact a1,a2.any,by rw[Fl];exact a3,Av.any a4,by rw[Fl];exact a5,Av.any a6⟩
theorem Av.any{B:AS}{w:World}:∀{l:List Px.St} {cs:AR},Av B w l cs->Bw B w (ofSts l) cs
 | [],cs,h=>by rw[Av] at h;rw[ofSts,Bw];exact h
 | e :: r,cs,h=>by
  rw[Av] at h;rw[ofSts,Bw];obtain⟨c1,c2,hc,h1,h2⟩:=h;exact⟨c1,c2,hc,IsSt.any h1,Av.any h2⟩
end
theorem Jt:∀l:List Px.Sl,Js (l.map Pg) (l.flatMap Bh)
 | []=>rfl
 | s :: r=>⟨Bh s,r.flatMap Bh,by simp,⟨s.place,rfl⟩,Jt r⟩
theorem Et.any{B:AS}{l:List Px.Sl}(h:Et B w l v):Ig B w (l.map Pg) v:=
 ⟨_,by rw[length_map];exact h,Jt l⟩
theorem Bf.any{B:AS}{l:List Px.St}(h:Bf B w l v):Bz B w (ofSts l) v:=by
 obtain⟨row,h1,h2⟩:=h;exact⟨row,by rw[Fl];exact h1,h2.any⟩
theorem Bq.any{B:AS}{w:World}:∀{l:List Px.Fn} {cs:AR},Bq B w l cs->Ef B w (l.map ofFn) cs
 | [],cs,h=>h
 | e :: r,cs,h=>by
  obtain⟨c1,c2,hc,⟨ps,bs,h1,h2,h3⟩,h5⟩:=h;exact⟨c1,c2,hc,⟨ps,bs,e.place,h1,h2.any,h3.any⟩,Bq.any h5⟩
theorem Ez.any{B:AS}{p:Px.Pr}(h:Ez B w p v):Pi B w (ofPr p) v:=by
 obtain⟨ss,fs,hv,h1,row,h2,h3⟩:=h;exact⟨ss,fs,hv,h1.any,row,by rw[show (ofPr p).fns.length=p.fns.length from by simp[ofPr]];exact h2,h3.any⟩
end
section
open Go.RowKit
open Px (Ty IsTy)
abbrev betw:=@Vv.betw
abbrev pre_iff:=@Vv.pre_iff
abbrev suf_iff:=@Vv.suf_iff
abbrev betw_iff:=@Vv.betw_iff
abbrev elemT:=@Vv.elemT
abbrev tyF:=@Vv.tyF
abbrev betw_none:=@Vv.betw_none
theorem Ab0:∀(f:Nat) (s:AQ),Vv.tyF f s=true->IsTy f s
 | 0,s,h=>by simp[Vv.tyF] at h
 | f+1,s,h=>by
  rw[Vv.tyF] at h;split at h
  .rename_i h1;rcases h1 with rfl | rfl | rfl
   .exact⟨_,.int⟩
   .exact⟨_,.bool⟩
   .exact⟨_,.text⟩
  .rcases he:Vv.elemT s with _ | y
   .rw[he] at h;simp at h
   .rw[he] at h;obtain⟨c,hc⟩:=Ab0 f y h;unfold Vv.elemT at he;rcases h1:Vv.betw s [91] [93] with _ | y1
    .rw[h1] at he;rcases h2:Vv.betw s [123,105,110,116,58] [125] with _ | y2
     .rw[h2] at he;have e:=(betw_iff _ _ _ _).1 he;have t:=Ty.map (a:=[116,101,120,116]) (AJ rfl) hc;exact⟨_,by rw[e];simpa using t⟩
     .rw[h2] at he;simp at he;subst he;have e:=(betw_iff _ _ _ _).1 h2;have t:=Ty.map (a:=[105,110,116]) (AI rfl) hc;exact⟨_,by rw[e];simpa using t⟩
    .rw[h1] at he;simp at he;subst he;have e:=(betw_iff _ _ _ _).1 h1;exact⟨_,by rw[e];exact Ty.list hc⟩
theorem Au4{k:Nat}{y:AQ}{c:List Lx.Tok}(h:Ty k y c):Vv.tyF k y=true:=by
 induction h with
 | int=>simp[Vv.tyF]
 | bool=>simp[Vv.tyF]
 | text=>simp[Vv.tyF]
 | @list k y c h ih=>
  have e:Vv.elemT ([91] ++ y ++ [93])=y:=by
   unfold Vv.elemT;rw[(betw_iff _ _ _ y).2 rfl]
  rw[Vv.tyF,if_neg (by simp),e];exact ih
 | @map k a y c ha h ih=>
  have e:Vv.elemT ([123] ++ a ++ [58] ++ y ++ [125])=y:=by
   unfold Vv.elemT;rw[betw_none _ _ _ (λ z=>by simp)];rcases ha with rfl | rfl
   .rw[(betw_iff _ _ _ y).2 (by simp)]
   .rw[betw_none _ _ _ (λ z=>by simp)];exact (betw_iff _ _ _ y).2 (by simp)
  rw[Vv.tyF,if_neg (by simp),e];exact ih
theorem Wa(f:Nat)(s:AQ):Vv.tyF f s=true↔IsTy f s:=⟨Ab0 f s,λ⟨_,h⟩=>Au4 h⟩
theorem gType_tyF(s:AQ):gType s=Vv.tyF 4 s:=by
 unfold gType;by_cases h:IsTy 4 s
 .rw[if_pos h,(Wa 4 s).2 h]
 .rw[if_neg h];rcases ht:Vv.tyF 4 s with _ | _
  .rfl
  .exact absurd ((Wa 4 s).1 ht) h
abbrev between_any:=@Vv.between_any
abbrev between_yes:=@Vv.between_yes
abbrev between_no:=@Vv.between_no
abbrev element_no:=@Vv.element_no
abbrev element_yes:=@Vv.element_yes
abbrev elem_len:=@Vv.elem_len
abbrev bytes_of:=@Vv.bytes_of
abbrev istype_any:=@Vv.istype_any
theorem stype_any(s:ByteArray)(w:World)(hs:s.size<=maxLen) :
  AA 59 #[.string s] w λ e w'=>e=.returned (.bool (gType s.data.toList))/\w'=w:=by
 have h:=istype_any 4 1 rfl s w hs;rw[<-gType_tyF] at h;go_enter func59,ntmps59;go_wp2_with (go_at_call 87;refine h.mono ?_;rintro e w' ⟨rfl,rfl⟩);go_ret;exact⟨rfl,rfl⟩
end
section
open Go.RowKit
structure FW(base b:Nat)(w w':World):Prop where
 below:Below base w w'
 kept:Lib.OthersKept 5 (some b) w w'
theorem FW.refl(base b:Nat)(w:World):FW base b w w:=⟨AF _ _,Lib.OthersKept.refl _ _ _⟩
abbrev AW:=@FW.refl
theorem FW.trans{base:Nat}(h:FW base b w w1)(k:FW base b w1 w2):FW base b w w2:=⟨h.below.trans k.below,h.kept.trans k.kept⟩
theorem FW.size{base:Nat}(h:FW base b w w1):w<=w1.heap.size:=h.below.size
theorem FW.of_below{base:Nat}(h:Below w w w1)(hb:base<=w):FW base b w w1:=
 ⟨h.mono hb,λ k o hk _ _=>(h.block k (AB hk).1).trans hk⟩
theorem FW.alloc{base:Nat}(h:FW base b w w1)(hb:base<=w1)(o:Obj):FW base b w (w1.alloc o):=⟨h.below.alloc hb o,h.kept.alloc o⟩
theorem FW.set{base:Nat}(h:FW base b w w1)(hb:base<=b)(j:Nat)(v:Value):FW base b w (w1.setCell ⟨b,j,none⟩ v):=⟨h.below.setCell (p:=⟨b,j,none⟩) hb v,h.kept.setCell ⟨b,j,none⟩ rfl v⟩
theorem FW.drewN{base:Nat}(h:FW base b w w1)(n:Nat):FW base b w (w1.drewN n):=⟨h.below.trans ⟨rfl,rfl,rfl,AD _,λ _ _=>rfl⟩,λ k o hk hb ho=>h.kept k o hk hb ho⟩
theorem FW.from_drewN{base:Nat}(n:Nat)(h:FW base b (w.drewN n) w1):FW base b w w1:=((AW base b w).drewN n).trans h
abbrev AX:=@FW.from_drewN
theorem FW.grown{base:Nat}{n:Nat}(h:FW base b w w1)(hg:w1.grownBy w2 v.ownBlock)(a0:w1.ownsRowF base 5 1 v n xs)(hb:base<=w1):FW base b w w2:=by
 refine⟨h.below.grown hg hb (λ k hk=>(a0.lt k hk).1),h.kept.grown hg λ g hgr=>?_⟩;rcases a0.2 with⟨rfl,_⟩ | ⟨g',cap,cur,fz,rfl,_,a3,_⟩
 .simp[Value.ownBlock] at hgr
 .simp[Value.ownBlock] at hgr;subst hgr;exact⟨cur,fz,a3⟩
theorem FW.block{base:Nat}(h:FW base b w w1){k:Nat}{cs:Array Value}{t:TypeId}{fz:Nat × Nat}(hk:w.heap[k]?=some (.cells cs t fz))(hb:k≠b)(ht:t≠5):w1.heap[k]?=some (.cells cs t fz):=
 h.kept k _ hk (by simpa using hb) (λ c f e=>ht (by injection e))
theorem FW.since{base:Nat}(h:FW base b w w1):Since (λ k=>k<base) w w1:=⟨h.size,λ k h1 _=>h.below.block k h1⟩
abbrev Am2(p v:Value)(tabs:Nat):Obj:=.cells #[p,v,iv tabs] 84 (0,0)
abbrev Bg(b:Nat):Value:=pt b 0
def Tb(base:Nat)(w:World):Prop:=Lib.TabBelow prog base w "internal/strconv.uint64pow10" .u64 Lib.pow10Tab
theorem Tb.mono{base:Nat}(h:Tb base w)(k:Below base w w'):Tb base w':=λ w2 h2=>h w2 (k.trans h2)
structure Wr(base b:Nat)(l:AQ)(tabs:Nat)(w:World):Prop where
 le:base<=b
 tab:Tb base w
 blk:∃p v,(p=.pointer none\/p=Bg b)/\w.heap[b]?=some (Am2 p v tabs)/\w.ownsRowF base 5 1 v l.length (Lib.byteCells l)
theorem Wr.lt{base:Nat}{l:AQ}{tabs:Nat}(h:Wr base b l tabs w):b<w:=by
 obtain⟨_,_,p,v,_,hb,_⟩:=h;exact (AB hb).1
theorem Wr.base{base b:Nat}{l:AQ}{tabs:Nat}{w:World}(h:Wr base b l tabs w):base<=w:=by have:=h.le;have:=h.lt;omega
theorem Fj{base n:Nat}{p:Value}{tabs:Nat}(hb:w.heap[b]?=some (Am2 p v tabs)){v':Value}(a0:w.ownsRowF base 5 1 v' n xs):v'.ownBlock≠b:=by
 rcases a0.2 with⟨rfl,_⟩ | ⟨g',cap,cur,fz,rfl,_,a3,_⟩
 .simp[Value.ownBlock]
 .simp only[Value.ownBlock];intro e;simp only[Option.some.injEq] at e;subst e;rw[hb] at a3;simp at a3
theorem Da{base n:Nat}(a0:w.ownsRowF base 5 1 v n xs)(h:∀k,v.ownBlock=some k->w'.heap[k]?=w.heap[k]?):w'.ownsRowF base 5 1 v n xs:=by
 obtain⟨h1,h2⟩:=a0;refine⟨h1,?_⟩;rcases h2 with h2 | ⟨g',cap,cur,fz,rfl,r1,a3,r⟩
 .exact AI h2
 .exact AJ ⟨g',cap,cur,fz,rfl,r1,(h g' (by simp[Value.ownBlock])).trans a3,r⟩
theorem Wr.call{base:Nat}{l:AQ}{tabs:Nat}(h:Wr base b l tabs w)(k:Below w w w'):Wr base b l tabs w':=by
 have a0:=h.lt;obtain⟨h0,ht,p,v,hp,hb,ho⟩:=h;exact⟨h0,ht.mono (k.mono (by omega)),p,v,hp,(k.block b a0).trans hb,Da ho λ g hg=>k.block g (ho.lt g hg).2⟩
theorem Wr.alloc{base:Nat}{l:AQ}{tabs:Nat}(h:Wr base b l tabs w)(o:Obj):Wr base b l tabs (w.alloc o):=h.call ((AF _ _).alloc (AD _) o)
theorem Wr.drew{base:Nat}{l:AQ}{tabs:Nat}(h:Wr base b l tabs w):Wr base b l tabs w.drew:=h.call ⟨rfl,rfl,rfl,AD _,λ _ _=>rfl⟩
theorem Wr.tabs{base b:Nat}{l:AQ}{tabs:Nat}{w:World}(h:Wr base b l tabs w)(n:Nat):Wr base b l n (w.setCell ⟨b,2,none⟩ (iv n)):=by
 have a0:=h.lt;obtain⟨h0,ht,p,v,hp,hb,ho⟩:=h;refine⟨h0,ht.mono ((AF _ _).setCell (p:=⟨b,2,none⟩) h0 _),p,v,hp,by simp[World.setCell,Array.getElem?_modify,hb],Da ho λ g hg=>?_⟩;exact AG _ _ _ _ (λ e=>Fj hb ho (by rw[hg,e]))
theorem Wr.cells{base:Nat}{l:AQ}{tabs:Nat}(h:Wr base b l tabs w):w.cell? ⟨b,2,none⟩=iv tabs/\w.frozen? ⟨b,2,none⟩=false:=by
 obtain⟨_,_,p,v,_,hb,_⟩:=h;obtain⟨_,_,h2,_,_,h5⟩:=Ad hb;exact⟨h2,h5⟩
theorem O8(b:Nat)(w:World)(h0:w.cell? b=some (.pointer none))(a3:w.shape? b=some (84,3))(a5:w.frozen? b=false) :
  AA 123 #[Bg b] w λ e w'=>e=.returned (.tuple #[])/\w'=w.setCell b (Bg b):=by
 obtain⟨j,hj,a4⟩:=Option.map_eq_some_iff.1 (show (prog.info? 82).map (·.size)=some 2 by kernel_rfl)
 have a0:liesAt prog prog.depth 84 (3 / prog.cellsOf 84) 0 82 1=true:=by kernel_rfl
 go_enter func123,ntmps123;go_wp2;rw[Lib.run_to_unsafe w ⟨b,0,none⟩ underlying80 underlying165 hj (by rw[a4];decide) a3 (Nat.zero_lt_succ 2)];simp only[Result.andThen];rw[Oper.upon_value];go_wp2;rw[run_callFunc_extern func151 (by kernel_rfl) (by kernel_rfl) (by kernel_rfl) (e:=Extern.AbiNoEscape.same) (by kernel_rfl)];rw[Lib.run_noEscape];simp only[Result.andThen];rw[Oper.upon_value];go_wp2;rw[Lib.run_from_unsafe w ⟨b,0,none⟩ underlying165 underlying80 hj a3 a0];simp only[Result.andThen];rw[Oper.upon_value];go_wp2
 go_end0
 exact⟨rfl,rfl⟩
theorem Tw{base:Nat}{l:AQ}{tabs:Nat}(h:Wr base b l tabs w) :
  AA 123 #[Bg b] w λ e w'=>e=.returned (.tuple #[])/\(∃v,w'.heap[b]?=some (Am2 (Bg b) v tabs)/\w'.ownsRowF base 5 1 v l.length (Lib.byteCells l))/\FW base b w w':=by
 obtain⟨h0,ht,p,v,hp,hb,ho⟩:=h;rcases hp with rfl | rfl
 .obtain⟨c0,_,_,f0,_,_⟩:=Ad hb;refine (O8 b w c0 (by simp[World.shape?,hb]) f0).mono ?_;rintro e w' ⟨rfl,rfl⟩;refine⟨rfl,⟨v,by simp[World.setCell,Array.getElem?_modify,hb],Da ho λ g hg=>?_⟩,(AW _ _ _).set h0 0 _⟩;exact AG _ _ _ _ (λ e=>Fj hb ho (by rw[hg,e]))
 .obtain⟨c0,_,_,f0,_,_⟩:=Ad hb;refine (Kt b w c0).mono ?_;rintro e w' ⟨rfl,rfl⟩;exact⟨rfl,⟨v,hb,ho⟩,AW _ _ _⟩
theorem K9(s:ByteArray):Lib.strCells s=Lib.byteCells s.data.toList:=by
 simp[Lib.strCells,Lib.byteCells]
theorem Mt(a c:AQ):Lib.byteCells (a ++ c)=Lib.byteCells a ++ Lib.byteCells c:=by simp[Lib.byteCells]
theorem fwrite_any{base:Nat}{l:AQ}{tabs:Nat}(h:Wr base b l tabs w)(s:ByteArray)(ad:l.length+s.size<=140737488355328) :
  AA 88 #[Bg b,.string s] w λ e w'=>e=.returned (.tuple #[iv s.size,.nilIface])/\Wr base b (l ++ s.data.toList) tabs w'/\FW base b w w':=by
 obtain⟨i0,hi,hz⟩:=Option.map_eq_some_iff.1 (show (prog.info? 5).map (λ i=>(i.zero,i.size,i.bytes))=some (some (.int .u8 0),1,1) by kernel_rfl);simp only[Prod.mk.injEq] at hz;obtain⟨aa,ab,ae⟩:=hz;have a8:=h.le;have a6:=h.base;have a4:=h.tab;go_enter func88,ntmps88;go_wp2_with (go_at_call 123;refine (Tw h).mono ?_);rintro e w1 ⟨rfl,⟨v,a3,a0⟩,a7⟩;have af:=a7.size;obtain⟨c0,c1,c2,_,_,_⟩:=Ad a3;go_wp2_with (at_builtin;refine Lib.wpList_append_own_stringF _ rfl _ _ 78 9 rfl base 5 i0 underlying78 underlying9 hi aa ab ae _ _ _ rfl a0 s rfl ?c3 ?c4 ?c5 ?_)
 case c3=>unfold maxLen;omega
 case c4=>omega
 case c5=>omega
 intro v' w2 hown' hgrow _;have a9:b<w1:=(AB a3).1;have a5:w2.heap[b]?=some (Am2 (Bg b) v tabs):=by
  rw[hgrow.block b a9 (λ e=>Fj a3 a0 e.symm)];exact a3
 obtain⟨d0,d1,d2,_,f1,_⟩:=Ad a5;obtain⟨ao,n',cap,rfl⟩:∃ao n' cap,v'=.slice ao n' cap:=by
  rcases hown'.2 with⟨hv,_⟩ | ⟨g,cap,cur,fz,hv,_⟩
  .exact⟨_,_,_,hv⟩
  .exact⟨_,_,_,hv⟩
 go_wp2
 go_ret2
 have hF:=(a7.grown hgrow a0 (by omega)).set a8 1 (.slice ao n' cap);refine⟨rfl,⟨a8,a4.mono hF.below,_,_,AJ rfl,by simp[World.setCell,Array.getElem?_modify,a5];rfl,?_⟩,hF⟩;rw[Mt,<-K9,length_append,F3];exact Da hown' λ g hg=>AG _ _ _ _ (λ e=>Fj a5 hown' (by rw[hg,e]))
theorem Z4{base:Nat}{l:AQ}{tabs:Nat}(h:Wr base b l tabs w) :
  AA 64 #[Bg b] w λ e w'=>e=.returned (iv l.length)/\w'=w:=by
 obtain⟨h0,ht,p,v,hp,hb,ho⟩:=h;obtain⟨ao,cap,rfl⟩:∃ao cap,v=.slice ao l.length cap:=by
  rcases ho.2 with⟨hv,h0⟩ | ⟨g,cap,cur,fz,hv,_⟩
  .exact⟨none,0,by rw[hv,h0]⟩
  .exact⟨_,_,hv⟩
 obtain⟨_,c1,_,_,_,_⟩:=Ad hb;go_enter func64,ntmps64;go_wp2;go_ret;exact⟨rfl,rfl⟩
def Bk(l x l':AQ):Prop:=l'=l ++ x\/(16384<l'.length/\16384<(l ++ x).length)
theorem Bk.refl(l:AQ):Bk l [] l:=AI (by simp)
theorem Bk.trans{l l1 y l2:AQ}(h:Bk l x l1)(k:Bk l1 y l2):Bk l (x ++ y) l2:=by
 rcases h with rfl | ⟨h1,h2⟩
 .rcases k with rfl | ⟨k1,k2⟩
  .exact AI (by simp)
  .exact AJ ⟨k1,by simpa using k2⟩
 .rcases k with rfl | ⟨k1,k2⟩
  .exact AJ ⟨by simp;omega,by simp at h2 ⊢;omega⟩
  .exact AJ ⟨k1,by simp at h2 ⊢;omega⟩
theorem Bk.over{l:AQ}(h:Bk [] x l):(16384<l.length↔16384<x.length)/\(¬16384<l.length->l=x):=by
 rcases h with rfl | ⟨h1,h2⟩
 .simp
 .simp at h2;exact⟨⟨λ _=>h2,λ _=>h1⟩,λ h=>absurd h1 h⟩
def Xv(l s:AQ):List UInt8:=if 16384<l.length then l else l ++ s
theorem wrote_put(l s:AQ):Bk l s (Xv l s):=by
 unfold Xv;split
 .rename_i h;exact AJ ⟨h,by simp;omega⟩
 .exact AI rfl
abbrev C0:List PanicEntry:=[{ v:=.iface 107 (.agg #[iv 11]),recovered:=false }]
def WPost(base b:Nat)(l:AQ)(tabs:Nat)(w:World)(r:Option (List UInt8))(e:Ending)(w':World):Prop:=
 match r with
 | some x=>e=.returned (.tuple #[])/\∃l',Bk l x l'/\Wr base b l' tabs w'/\FW base b w w'
 | none=>e=.panicked C0/\∃l' tabs',Wr base b l' tabs' w'/\FW base b w w'
theorem E7{base:Nat}{l:AQ}{tabs:Nat}(h:Wr base b l tabs w) :
  AA 36 #[Bg b] w λ e w'=>e=.returned (.bool (decide (16384<l.length)))/\w'=w:=by
 have a0:=h.lt;go_enter func36,ntmps36;go_wp2_with (go_at_call 64;refine (Z4 h).mono ?_;rintro e w' ⟨rfl,rfl⟩);go_ret;refine⟨?_,rfl⟩;rw[show decide ((16384:Int)<(l.length:Int))=decide (16384<l.length) from decide_eq_decide.2 (by omega)];rfl
theorem Am3{base:Nat}{l:AQ}{tabs:Nat}(h:Wr base b l tabs w)(s:ByteArray)(hs:s.size<=1099511627776) :
  AA 60 #[Bg b,.string s] w λ e w'=>e=.returned (.tuple #[])/\Wr base b (Xv l s.data.toList) tabs w'/\FW base b w w':=by
 have a3:=h.lt;unfold Xv;by_cases hov:16384<l.length
 .have hO:=E7 h;rw[if_pos hov];simp only[hov,decide_true] at hO;go_enter func60,ntmps60;go_wp2_with (go_at_call 36;refine hO.mono ?_;rintro e w' ⟨rfl,rfl⟩)
  go_end0
  exact⟨rfl,h,AW _ _ _⟩
 .have hO:=E7 h;rw[if_neg hov];simp only[hov,decide_false] at hO;go_enter func60,ntmps60;go_wp2_with (go_at_call 36;refine hO.mono ?_;rintro e w' ⟨rfl,rfl⟩);go_wp2_with (go_at_call 88;refine (fwrite_any h s (by omega)).mono ?_;rintro e w' ⟨rfl,h',a0⟩)
  go_end0
  exact⟨rfl,h',a0⟩
theorem Z5{base:Nat}{l:AQ}{tabs:Nat}(h:Wr base b l tabs w)(s:ByteArray)(hs:s.size<=1099511627776)(u:FrameMode) :
  CallsD prog 60 #[Bg b,.string s] u w λ e u' w'=>u'=u/\e=.returned (.tuple #[])/\Wr base b (Xv l s.data.toList) tabs w'/\FW base b w w':=by
 have a3:=h.lt;unfold Xv;by_cases hov:16384<l.length
 .have hO:=E7 h;rw[if_pos hov];simp only[hov,decide_true] at hO
  go_enter_d func60,ntmps60
  go_wp2_with (go_at_call 36;refine hO.mono ?_;rintro e w' ⟨rfl,rfl⟩)
  go_end0
  exact⟨rfl,h,AW _ _ _⟩
 .have hO:=E7 h;rw[if_neg hov];simp only[hov,decide_false] at hO
  go_enter_d func60,ntmps60
  go_wp2_with (go_at_call 36;refine hO.mono ?_;rintro e w' ⟨rfl,rfl⟩)
  go_wp2_with (go_at_call 88;refine (fwrite_any h s (by omega)).mono ?_;rintro e w' ⟨rfl,h',a0⟩)
  go_end0
  exact⟨rfl,h',a0⟩
theorem put_l{base:Nat}{l:AQ}{tabs:Nat}(h:Wr base b l tabs w)(x:AQ)(hs:x.length<=1099511627776) :
  AA 60 #[Bg b,.string ⟨x.toArray⟩] w λ e w'=>e=.returned (.tuple #[])/\∃l',Bk l x l'/\Wr base b l' tabs w'/\FW base b w w':=by
 refine (Am3 h ⟨x.toArray⟩ (by show x.toArray.size<=_;simpa using hs)).mono ?_;rintro e w' ⟨rfl,h',hf⟩;exact⟨rfl,_,wrote_put l x,by simpa using h',hf⟩
theorem Z6{base:Nat}{l:AQ}{tabs:Nat}(h:Wr base b l tabs w)(x:AQ)(hs:x.length<=1099511627776)(u:FrameMode) :
  CallsD prog 60 #[Bg b,.string ⟨x.toArray⟩] u w λ e u' w'=>u'=u/\e=.returned (.tuple #[])/\∃l',Bk l x l'/\Wr base b l' tabs w'/\FW base b w w':=by
 refine (Z5 h ⟨x.toArray⟩ (by show x.toArray.size<=_;simpa using hs) u).mono ?_;rintro e u' w' ⟨rfl,rfl,h',hf⟩;exact⟨rfl,rfl,_,wrote_put l x,by simpa using h',hf⟩
theorem Xw{l:AQ}{k:Nat}{l1 l2:AQ}(h:Bk l (10 :: List.replicate k 9) l1)(k1:Bk l1 [9] l2):Bk l (10 :: List.replicate (k+1) 9) l2:=by
 have:=h.trans k1;rw[replicate_succ'];simpa using this
theorem Tx{l:AQ}{k n:Nat}{l1:AQ}(h:Bk l (10 :: List.replicate k 9) l1)(hk:k<=n)(ho:16384<l1.length):Bk l (10 :: List.replicate n 9) l1:=by
 right;refine⟨ho,?_⟩;rcases h with rfl | ⟨_,h2⟩
 .simp at ho ⊢;omega
 .simp at h2 ⊢;omega
theorem Q7{base:Nat}{l:AQ}{tabs:Nat}(h:Wr base b l tabs w)(ht:tabs<=1099511627776) :
  AA 127 #[Bg b] w λ e w'=>e=.returned (.tuple #[])/\∃l',Bk l (10 :: List.replicate tabs 9) l'/\Wr base b l' tabs w'/\FW base b w w':=by
 have hP:=put_l h [10] (by simp);go_enter func127,ntmps127;go_wp2_with (go_at_call 60;refine hP.mono ?_;rintro e w1 ⟨rfl,l1,a5,h1,a0⟩);clear hP
 go_loopg [2] tabs (λ g i wr=>∃(k:Nat) (lk:AQ),k<=tabs/\g=tabs - k/\i=iv k/\Bk l (10 :: List.replicate k 9) lk/\Wr base b lk tabs wr/\FW base b w wr)
 case atStart=>exact⟨0,l1,AO _,rfl,rfl,by simpa using a5,h1,a0⟩
 case round=>
  clear h1 a0 a5 h;obtain⟨k,lk,hk,rfl,rfl,a3,h1,a0⟩:=hrel;have a9:=h1.lt;obtain⟨c2,f2⟩:=h1.cells;have hO:=E7 h1;by_cases hlt2:k<tabs
  .have a4:(k:Int)<(tabs:Int):=by omega
   by_cases hov:16384<lk.length
   .simp only[hov,decide_true] at hO;go_wp2_with (go_at_call 36;refine hO.mono ?_;rintro e w' ⟨rfl,rfl⟩)
    go_end0
    exact⟨rfl,lk,Tx a3 hk hov,h1,a0⟩
   .simp only[hov,decide_false] at hO;have hP:=put_l h1 [9] (by simp);go_wp2_with (go_at_call 36;refine hO.mono ?_;rintro e w' ⟨rfl,rfl⟩);go_wp2_with (go_at_call 60;refine hP.mono ?_;rintro e w2 ⟨rfl,l2,a6,h2,a8⟩);go_wp2;go_roundg (tabs - (k+1))
    case measure=>omega
    case rel=>exact⟨k+1,l2,by omega,rfl,by go_num,Xw a3 a6,h2,a0.trans a8⟩
  .have a4:¬(k:Int)<(tabs:Int):=by omega
   have a7:k=tabs:=by omega
   go_wp2
   go_end0
   exact⟨rfl,lk,by rw[<-a7];exact a3,h1,a0⟩
theorem SlRow.under{B:AS}{n:Nat}{row:AR}(h:SlRow B w sz v n row):SlRow (λ k=>k<w.heap.size) w sz v n row:=by
 obtain⟨h1,h2⟩:=h;refine⟨h1,?_⟩;rcases h2 with h2 | ⟨g,o,cap,hv,hn,hc,hb,hg,hr⟩
 .exact AI h2
 .exact AJ ⟨g,o,cap,hv,hn,hc,hg,hg,hr⟩
mutual
theorem IsGE.under{B:AS}{w:World}:∀{e:GE} {cs:AR},IsGE B w e cs->IsGE (λ k=>k<w.heap.size) w e cs
 | .mk k o n t args,cs,h=>by
  rw[IsGE] at h ⊢;obtain⟨x,p,y,sl,row,hc,hr,ha⟩:=h;exact⟨x,p,y,sl,row,hc,hr.under,Bx.under ha⟩
theorem Bx.under{B:AS}{w:World}:∀{l:List GE} {cs:AR},Bx B w l cs->Bx (λ k=>k<w.heap.size) w l cs
 | [],cs,h=>by rw[Bx] at h ⊢;exact h
 | e :: r,cs,h=>by
  rw[Bx] at h ⊢;obtain⟨c1,c2,hc,h1,h2⟩:=h;exact⟨c1,c2,hc,IsGE.under h1,Bx.under h2⟩
end
mutual
theorem IsGS.under{B:AS}{w:World}:∀{e:GS} {cs:AR},IsGS B w e cs->IsGS (λ k=>k<w.heap.size) w e cs
 | .mk k n es b c,cs,h=>by
  rw[IsGS] at h ⊢;obtain⟨x,y,p,f,s1,s2,s3,r1,r2,r3,hc,a1,a2,a3,a4,a5,a6⟩:=h;exact⟨x,y,p,f,s1,s2,s3,r1,r2,r3,hc,a1.under,a2.under,a3.under,Bw.under a4,a5.under,Bw.under a6⟩
theorem Bw.under{B:AS}{w:World}:∀{l:List GS} {cs:AR},Bw B w l cs->Bw (λ k=>k<w.heap.size) w l cs
 | [],cs,h=>by rw[Bw] at h ⊢;exact h
 | e :: r,cs,h=>by
  rw[Bw] at h ⊢;obtain⟨c1,c2,hc,h1,h2⟩:=h;exact⟨c1,c2,hc,IsGS.under h1,Bw.under h2⟩
end
theorem Ig.under{B:AS}{l:List (List UInt8 × List UInt8)}(h:Ig B w l v):Ig (λ k=>k<w.heap.size) w l v:=by
 obtain⟨row,h1,h2⟩:=h;exact⟨row,h1.under,h2⟩
theorem Bz.under{B:AS}{l:List GS}(h:Bz B w l v):Bz (λ k=>k<w.heap.size) w l v:=by
 obtain⟨row,h1,h2⟩:=h;exact⟨row,h1.under,h2.under⟩
theorem G5.under{B:AS}{f:GF}(h:G5 B w f cs):G5 (λ k=>k<w.heap.size) w f cs:=by
 obtain⟨ps,bs,p,h1,h2,h3⟩:=h;exact⟨ps,bs,p,h1,h2.under,h3.under⟩
theorem Ef.under{B:AS}{w:World}:∀{l:List GF} {cs:AR},Ef B w l cs->Ef (λ k=>k<w.heap.size) w l cs
 | [],cs,h=>h
 | e :: r,cs,h=>by
  obtain⟨c1,c2,hc,h1,h2⟩:=h;exact⟨c1,c2,hc,h1.under,Ef.under h2⟩
theorem Lb.under{B:AS}{l:List GF}(h:Lb B w l v):Lb (λ k=>k<w.heap.size) w l v:=by
 obtain⟨row,h1,h2⟩:=h;exact⟨row,h1.under,h2.under⟩
theorem Pi.under{B:AS}{p:GP}(h:Pi B w p v):Pi (λ k=>k<w.heap.size) w p v:=by
 obtain⟨ss,fs,hv,h1,h2⟩:=h;exact⟨ss,fs,hv,h1.under,h2.under⟩
theorem Rw{base:Nat}{l:AQ}{tabs:Nat}(h:Wr base b l tabs w)(h0:l≠[]) :
  AA 37 #[Bg b] w λ e w'=>e=.returned (.string ⟨l.toArray⟩)/\FW base b w w':=by
 obtain⟨ag,_,p,v,hp,a4,a0⟩:=h;have a5:l.length≠0:=by simpa using h0
 obtain⟨g,cap,cur,fz,rfl,a8,hg,aa,af,a6,a9,a3⟩:∃g cap cur fz,v=sL g 0 l.length cap/\base<=g/\w.heap[g]?=some (.cells cur 5 fz)/\fz.2<=l.length*1/\l.length<=cap/\cap<=maxLen/\cur.size=cap*1/\cur.toList.take (l.length*1)=Lib.byteCells l:=by
  rcases a0.2 with⟨_,hz⟩ | ⟨g,cap,cur,fz,hv,r⟩
  .exact absurd hz a5
  .exact⟨g,cap,cur,fz,hv,r⟩
 have ad:b<w:=(AB a4).1;have c1:w.drew.cell? ⟨b,1,none⟩=sL g 0 l.length cap:=(Ad (w:=w.drew) a4).2.1;have ae:(Builtin.unsafeSliceData_ #[78] 111 #[sL g 0 l.length cap]).run prog w.drew=.ok (pt g 0) w.drew:=
  Lib.run_unsafeSliceData_row _ _ _ _ _ _ (by omega)
 have ab:(Builtin.unsafeString_ #[111,3] 9 #[pt g 0,iv l.length]).run prog w.drew=.ok (.string ⟨l.toArray⟩) (w.drew.freeze ⟨g,0,none⟩ l.length):=by
  refine Lib.run_unsafeString_row w.drew 111 3 9 5 underlying111 (by kernel_rfl) g cur.size (by have a7:w.drew.heap[g]?=some (.cells cur 5 fz):=hg;simp[World.shape?,a7]) l h0 (by omega) (by unfold maxLen at a6;omega) ?_;intro j x hx;have:=a0.cells (g:=g) rfl j (.int .u8 x.toNat) (by simp[Lib.byteCells,hx]);exact this
 have hF:FW base b w (w.drew.freeze ⟨g,0,none⟩ l.length):=
  ⟨Lib.below_freeze (Below.drew (AF base w)) (p:=⟨g,0,none⟩) a8 _,Lib.OthersKept.freeze (Lib.OthersKept.drew (Lib.OthersKept.refl _ _ _)) ⟨g,0,none⟩ _ ⟨cur,fz,hg⟩⟩
 clear a0 a3 a9 aa;go_enter func37,ntmps37;go_wp2
 go_region
 all_goals
  go_wp2;go_ret;exact⟨rfl,hF⟩
end
section
open Px (TS TSim Ins)
theorem Af0(dot:Bool)(l:AQ):∀(N i c:Nat) (ts:List Lx.Tok),l.length - i<N->i<=l.length->Lx.lexGo dot (l.drop i) i c=.inl ts->∀t∈ts,i<=t.place/\t.place<=l.length:=by
 intro N;induction N with
 | zero=>intro i c ts hN;omega
 | succ N ih=>
  intro i c ts hN hi h;obtain⟨u,a5,rfl,a8,hc,a3⟩:=E6 h;have a6:=Lx.skip_le false (l.drop i);simp only[length_drop] at a6;rcases a3 with⟨hd,rfl,rfl⟩ | ⟨x,r,k,t,m,n,hd,ht,rfl,a0⟩
  .intro t ht;simp at ht;subst ht;exact⟨by simp,by show i+_<=_;omega⟩
  .have a7:=B4 ht;have a4:=congrArg List.length hd;simp at a4;rw[drop_drop,<-Nat.add_assoc] at a0;intro t2 ht2;simp only[mem_cons] at ht2;rcases ht2 with rfl | ht2
   .exact⟨by simp,by show i+_<=_;omega⟩
   .have:=ih (i+Lx.skipF false (l.drop i)+n) (c+1) a5 (by omega) (by omega) a0 t2 ht2;omega
end
section
theorem Je:∀(N:Nat) (l:AQ) (o:Nat) (acc:AQ) (a er:Nat),l.length<=N->Lx.quoteR l o acc=Lx.R.bad a er->a<=o+l.length
 | N,[],o,acc,a,er,_,h=>by simp[Lx.quoteR,Lx.R.bad] at h;omega
 | 0,c :: r,o,acc,a,er,hN,h=>by simp at hN
 | N+1,c :: r,o,acc,a,er,hN,h=>by
  rw[Cf] at h;simp only[length_cons] at hN ⊢;split at h
  .split at h
   .simp[Lx.R.ok,Lx.R.bad] at h
   .simp[Lx.R.bad] at h;omega
  .split at h
   .split at h
    .simp[Lx.R.bad] at h;omega
    .split at h
     .rename_i d r' _;have:=Je N r' (o+2) _ a er (by simp at hN;omega) h;simp only[length_cons];omega
     .simp[Lx.R.bad] at h;omega
   .split at h
    .have:=Je N r (o+1) _ a er (by omega) h;omega
    .simp[Lx.R.bad] at h;omega
theorem Ao5{dot:Bool}{l:AQ}{a er:Nat}(h:Lx.tokR dot l=Lx.R.bad a er):a<=l.length:=by
 match l,h with
 | [],h=>simp[Lx.tokR,Lx.R.ok,Lx.R.bad] at h
 | c :: r,h=>
  simp only[Lx.tokR] at h;split at h
  .unfold Lx.nameR at h;split at h
   .simp[Lx.R.ok,Lx.R.bad] at h
   .simp[Lx.R.bad] at h;omega
  .split at h
   .unfold Lx.numberR at h;split at h
    .simp[Lx.R.bad] at h;omega
    .split at h
     .simp[Lx.R.ok,Lx.R.bad] at h
     .simp[Lx.R.bad] at h;omega
   .split at h
    .have:=Je r.length r 1 [] a er (AD _) h;simp only[length_cons];omega
    .unfold Lx.markR at h;split at h
     .simp[Lx.R.bad] at h;omega
     .simp[Lx.R.ok,Lx.R.bad] at h
theorem R7(dot:Bool):∀(f:Nat) (l:AQ) (i c a er:Nat),l.length<f->Lx.lexF dot f l i c=.inr (a,er)->a<=i+l.length
 | 0,l,i,c,a,er,hf,h=>by omega
 | f+1,l,i,c,a,er,hf,h=>by
  have hk:=Lx.skip_le false l;simp only[Lx.lexF] at h;split at h
  .split at h
   .simp at h
   .simp at h;omega
  .rename_i x r hd;have hl:=congrArg List.length hd;simp at hl;split at h
   .rename_i o e ht;simp at h;have:=Ao5 ht;simp only[length_cons] at this;omega
   .rename_i k t m n ht;have a0:=B4 ht;split at h
    .rcases hg:Lx.lexF dot f (r.drop (n - 1)) (i+Lx.skipF false l+n) (c+1) with ts | ⟨a',e'⟩
     .rw[hg] at h;simp[Lx.Out.pre] at h
     .rw[hg] at h;simp[Lx.Out.pre] at h;have:=R7 dot f _ _ _ a' e' (by simp;omega) hg;simp only[length_drop] at this;omega
    .simp at h;omega
theorem Ao6{dot:Bool}{l:AQ}{a er:Nat}(h:Lx.lex dot l=.inr (a,er)):a<=l.length:=by
 unfold Lx.lex at h;split at h
 .simp at h;omega
 .have:=R7 dot _ l 0 0 a er (Nat.lt_succ_self _) h;omega
end
section
open Px (TS TSim Ins)
theorem parse_bad_cases{l:AQ}{a er:Nat}(h:Px.parse l=.inr (a,er)):(Lx.lex true l=.inr (a,er)/\er≠0/\a<=l.length)\/∃ts,Lx.lex true l=.inl ts/\(∃t∈ts,t.place=a)/\(er=31\/er=32)/\a<=l.length:=by
 unfold Px.parse at h;rcases hl:Lx.lex true l with ts | ⟨a',a0⟩
 .rw[hl] at h;simp only at h;rcases hp:Px.program ts with⟨p,r⟩ | ⟨a',a0⟩
  .rw[hp] at h;simp at h
  .rw[hp] at h;simp only[Sum.inr.injEq,Prod.mk.injEq] at h;obtain⟨rfl,rfl⟩:=h;obtain⟨⟨t,ht,a3⟩,he⟩:=Q2 hl hp;refine AJ ⟨ts,rfl,⟨t,ht,a3⟩,he,?_⟩;have a4:=(D8 hl).2;unfold Lx.lex at hl;rw[if_neg (by omega)] at hl;have:=Af0 true l (l.length+1) 0 0 ts (by omega) (by omega) (by simpa using hl) t ht;omega
 .rw[hl] at h;simp only[Sum.inr.injEq,Prod.mk.injEq] at h;obtain⟨rfl,rfl⟩:=h;exact AI ⟨rfl,Al6 hl,Ao6 hl⟩
end
section
open Go.RowKit
abbrev Ar9(k o n:Nat)(t:Lx.B)(sl:Value)(p:Nat):Obj:=.cells #[iv k,iv o,iv n,.string ⟨t.toArray⟩,iv 0,sE,sl,iv p] 48
abbrev boxes(w:World)(k o n:Nat)(t:Lx.B)(ao:Option Addr)(len cap p:Nat)(ao':Option Addr)(cap' p':Nat):World:=(w.alloc (Ar9 k o n t (.slice ao len cap) p)).alloc (Ar9 k o n t (.slice ao' len cap') p')
theorem Et.slice{B:AS}{l:List Px.Sl}(h:Et B w l v):∃ao cap,v=.slice ao l.length cap:=by
 obtain⟨ao,cap,e,_⟩:=SlRow.slice h;exact⟨ao,cap,e⟩
abbrev Jf:Value:=.agg #[iv 0,sZ,sZ]
def N7(res:Px.Pr ⊕ (Nat × Nat))(w:World)(e:Ending)(w':World):Prop:=
 match res with
 | .inl p=>(∃v,e=.returned (.tuple #[v,iv 0,iv 0])/\Ez (From w) w' p v)/\Below w w w'
 | .inr (a,er)=>e=.returned (.tuple #[Jf,iv a,iv er])/\Below w w w'
theorem Ez.cells{B:AS}{p:Px.Pr}(h:Ez B w p v):∃sa sn sc fa fn fc,v=.agg #[iv p.version,.slice sa sn sc,.slice fa fn fc]:=by
 obtain⟨ss,fs,hv,h1,row,h2,h3⟩:=h;obtain⟨sa,sc,rfl⟩:=Et.slice h1;obtain⟨fa,fc,rfl,_⟩:=h2.slice;exact⟨sa,_,sc,fa,_,fc,hv⟩
end
section
namespace Ck
open Lx (B)
open Px (Ex St Sl Pr)
def VT(t:B):Prop:=∃T:Vv.Ty,Vv.tyT T=t/\T.dp<=4
theorem Af6{k:Nat}{y:B}{c:List Lx.Tok}(h:Px.Ty k y c):∃T:Vv.Ty,Vv.tyT T=y/\T.dp<=k:=by
 induction h with
 | int=>exact⟨.int,rfl,by simp[Vv.Ty.dp]⟩
 | bool=>exact⟨.bool,rfl,by simp[Vv.Ty.dp]⟩
 | text=>exact⟨.text,rfl,by simp[Vv.Ty.dp]⟩
 | list _ ih=>
  obtain⟨T,rfl,h⟩:=ih;exact⟨.list T,rfl,by simp[Vv.Ty.dp];omega⟩
 | map ha _ ih=>
  obtain⟨T,rfl,h⟩:=ih;rcases ha with rfl | rfl
  .exact⟨.map true T,by simp[Vv.tyT,Vv.keyT],by simp[Vv.Ty.dp];omega⟩
  .exact⟨.map false T,by simp[Vv.tyT,Vv.keyT],by simp[Vv.Ty.dp];omega⟩
theorem VT.of{t:B}(h:∃c,Px.Ty 4 t c):VT t:=by
 obtain⟨c,h⟩:=h;exact Af6 h
theorem VT.int:VT tInt:=⟨.int,rfl,by simp[Vv.Ty.dp]⟩
theorem VT.bool:VT tBool:=⟨.bool,rfl,by simp[Vv.Ty.dp]⟩
theorem VT.text:VT tText:=⟨.text,rfl,by simp[Vv.Ty.dp]⟩
theorem elT_vt{t:B}(h:(Vv.elT t).2=true):VT (Vv.elT t).1:=by
 unfold Vv.elT at h ⊢;split at h
 .rename_i T e;have:=((Vv.tyOf_iff _ _).1 e).2;simp only[Vv.Ty.dp] at this;exact⟨T,rfl,by omega⟩
 .cases h
theorem mpT_vt{t:B}(h:(Vv.mpT t).2.2=true):VT (Vv.mpT t).1/\VT (Vv.mpT t).2.1:=by
 unfold Vv.mpT at h ⊢;split at h
 .rename_i k T e;have:=((Vv.tyOf_iff _ _).1 e).2;simp only[Vv.Ty.dp] at this;exact⟨⟨Vv.keyTy k,Vv.keyTy_T k,by rw[Vv.keyTy_dp];omega⟩,⟨T,rfl,by omega⟩⟩
 .cases h
theorem Yq{t:B}(h:(within t).2.2=true):VT (within t).1/\VT (within t).2.1:=by
 unfold within at h ⊢;split
 .rename_i e;exact⟨VT.int,elT_vt e⟩
 .rename_i e;rw[if_neg e] at h;exact mpT_vt h
theorem Af7{k:Nat}{t:B}(ht:VT t):VT (sig k t).1:=by
 unfold sig;split
 .exact VT.int
 .split
  .exact VT.bool
  .split
   .exact ht
   .exact VT.text
theorem Ao7{o:Nat}{t:B}(ht:VT t):VT (operated o t).1:=by
 unfold operated;split
 .exact ht
 .split
  .exact VT.bool
  .split
   .exact VT.bool
   .split
    .exact ht
    .exact ht
mutual
def ClE(sts:List B)(hs:List Hd)(n:Nat)(ls:List B):CE->Prop
 | .mk k o nn t s y args=>VT y/\(k=3\/t=[])/\k≠6/\(k=4->ls[s]?=y)/\(k=5->sts[s]?=y)/\(k=7->s<n/\∃h,hs[s]?=some h/\h.on=false/\h.result=y/\args.map CE.type=h.params)/\Er sts hs n ls args
def Er(sts:List B)(hs:List Hd)(n:Nat)(ls:List B):List CE->Prop
 | []=>True
 | e :: r=>ClE sts hs n ls e/\Er sts hs n ls r
end
mutual
def ClS(sts:List B)(hs:List Hd)(n:Nat)(ls:List B):CS->Prop
 | .mk k s f num es b c=>Er sts hs n ls es/\(k=4\/k=6\/(f=true/\s<sts.length)\/(f=false/\s<ls.length))/\Ft sts hs n ls b/\Ft sts hs n ls c
def Ft(sts:List B)(hs:List Hd)(n:Nat)(ls:List B):List CS->Prop
 | []=>True
 | e :: r=>ClS sts hs n ls e/\Ft sts hs n ls r
end
theorem Sd{α:Type}{l m:List α}{x:α}(h:l[i]?=x):(l ++ m)[i]?=x:=by
 rw[List.getElem?_append_left (List.getElem?_eq_some_iff.1 h).1];exact h
mutual
theorem ClE.more{sts:List B}{hs:List Hd}{n:Nat}{ls:List B}(m:List B):∀{e:CE},ClE sts hs n ls e->ClE sts hs n (ls ++ m) e
 | .mk k o nn t s y args,h=>by
  rw[ClE] at h ⊢;obtain⟨h1,h2,h3,h4,h5,h6,h7⟩:=h;exact⟨h1,h2,h3,λ e=>Sd (h4 e),h5,h6,Er.more m h7⟩
theorem Er.more{sts:List B}{hs:List Hd}{n:Nat}{ls:List B}(m:List B):∀{l:List CE},Er sts hs n ls l->Er sts hs n (ls ++ m) l
 | [],h=>by rw[Er];trivial
 | e :: r,h=>by
  rw[Er] at h ⊢;exact⟨ClE.more m h.1,Er.more m h.2⟩
end
mutual
theorem ClS.more{sts:List B}{hs:List Hd}{n:Nat}{ls:List B}(m:List B):∀{e:CS},ClS sts hs n ls e->ClS sts hs n (ls ++ m) e
 | .mk k s f num es b c,h=>by
  rw[ClS] at h ⊢;obtain⟨h1,h2,h3,h4⟩:=h;exact⟨h1.more m,by rcases h2 with h2 | h2 | h2 | h2;exact AI h2;exact AJ (AI h2);exact AJ (AJ (AI h2));exact AJ (AJ (AJ ⟨h2.1,by simp;omega⟩)),Ft.more m h3,Ft.more m h4⟩
theorem Ft.more{sts:List B}{hs:List Hd}{n:Nat}{ls:List B}(m:List B):∀{l:List CS},Ft sts hs n ls l->Ft sts hs n (ls ++ m) l
 | [],h=>by rw[Ft];trivial
 | e :: r,h=>by
  rw[Ft] at h ⊢;exact⟨ClS.more m h.1,Ft.more m h.2⟩
end
theorem ClE.vt{sts:List B}{hs:List Hd}{n:Nat}{ls:List B}{e:CE}(h:ClE sts hs n ls e):VT e.type:=by
 obtain⟨k,o,nn,t,s,y,args⟩:=e;rw[ClE] at h;exact h.1
def MOk(sts ls:List B)(m:Mng):Prop:=(m.kind=1/\sts[m.slot]?=some m.type/\VT m.type)\/m.kind=2\/((m.kind=3\/m.kind=4)/\ls[m.slot]?=some m.type/\VT m.type)
def Dl(sts ls:List B)(env:Env):Prop:=∀x∈env,MOk sts ls x.2
theorem Dl.more{sts ls:List B}{env:Env}(h:Dl sts ls env)(m:List B):Dl sts (ls ++ m) env:=λ x hx=>by
 rcases h x hx with h | h | h
 .exact AI h
 .exact AJ (AI h)
 .exact AJ (AJ ⟨h.1,Sd h.2.1,h.2.2⟩)
theorem look_ok{sts ls:List B}:∀{env:Env},Dl sts ls env->∀x,(look env x).kind≠0->MOk sts ls (look env x)
 | [],h,x,h0=>by simp[look,Mng.no] at h0
 |(n,m) :: r,h,x,h0=>by
  rw[look] at h0 ⊢;split
  .exact h (n,m) (AC ..)
  .rename_i e;rw[if_neg e] at h0;exact look_ok (λ y hy=>h y (AH _ hy)) x h0
structure HOk(sts:List B)(hs:List Hd):Prop where
 res:∀h∈hs,VT h.result
theorem bd{α β:Type}{r:R α}{f:α->R β}{y:β}(h:bind r f=.inl y):∃x,r=.inl x/\f x=.inl y:=by
 rcases r with x | e
 .exact⟨x,rfl,h⟩
 .cases h
theorem nd{c:Bool}{er:Nat}{u:Unit}(h:need c p er=.inl u):c=true:=by
 cases c
 .cases h
 .rfl
mutual
def NoE:Ex->Prop
 | .mk k o n t args p=>k≠4/\k≠5/\Lt args
def Lt:List Ex->Prop
 | []=>True
 | x :: r=>NoE x/\Lt r
end
mutual
def NoS:St->Prop
 | .mk k n es b c p=>(k=1\/k=2\/k=3\/k=4\/k=5\/k=6)/\Lt es/\J9 b/\J9 c
def J9:List St->Prop
 | []=>True
 | x :: r=>NoS x/\J9 r
end
abbrev Good(sts:List B)(hs:List Hd)(n:Nat)(ls:List B)(r:R CE):Prop:=∀y,r=.inl y->ClE sts hs n ls y
def Iq(sts:List B)(hs:List Hd)(n:Nat)(ls:List B):List Q->Prop
 | []=>True
 | q :: r=>Good sts hs n ls q.1/\Iq sts hs n ls r
theorem Iq.arg{sts:List B}{hs:List Hd}{n:Nat}{ls:List B}:∀{l:List Q} (i:Nat),Iq sts hs n ls l->Good sts hs n ls (arg l i).1
 | [],i,h,y,e=>by simp[Ck.arg] at e
 | q :: r,0,h,y,e=>h.1 y e
 | q :: r,i+1,h,y,e=>Iq.arg i h.2 y (by simpa [Ck.arg] using e)
theorem Bp{sts:List B}{hs:List Hd}{n:Nat}{ls:List B}{q:Q}(h:Good sts hs n ls q.1){t:B}{y:CE}(e:asked q t=.inl y):ClE sts hs n ls y/\y.type=t:=by
 obtain⟨x,h1,e⟩:=bd e;obtain⟨_,h2,e⟩:=bd e;have h3:=nd h2;cases e;exact⟨h _ h1,by simpa using h3⟩
theorem Se{sts:List B}{hs:List Hd}{n:Nat}{ls:List B}:∀{l:List Q} {ts:List B} {xs:List CE},Iq sts hs n ls l->l.length=ts.length->all l ts=.inl xs->Er sts hs n ls xs/\xs.map CE.type=ts
 | [],[],xs,h,hl,e=>by
  simp[all] at e;subst e;exact⟨by rw[Er];trivial,rfl⟩
 | q :: r,t :: ts,xs,h,hl,e=>by
  rw[all] at e;obtain⟨x,h1,e⟩:=bd e;obtain⟨ys,h2,e⟩:=bd e;cases e;obtain⟨a1,a2⟩:=Bp h.1 h1;obtain⟨b1,b2⟩:=Se h.2 (by simpa using hl) h2;exact⟨by rw[Er];exact⟨a1,b1⟩,by simp[a2,b2]⟩
theorem cle_nil{sts:List B}{hs:List Hd}{n:Nat}{ls:List B}:Er sts hs n ls []:=by rw[Er];trivial
theorem Du{sts:List B}{hs:List Hd}{n:Nat}{ls:List B}{x:CE}(h:ClE sts hs n ls x):Er sts hs n ls [x]:=by rw[Er];exact⟨h,cle_nil⟩
theorem Kk{sts:List B}{hs:List Hd}{n:Nat}{ls:List B}{x y:CE}(h:ClE sts hs n ls x)(k:ClE sts hs n ls y):Er sts hs n ls [x,y]:=by rw[Er];exact⟨h,Du k⟩
theorem Af8(t:B):bkind t=0\/bkind t=8\/bkind t=9\/bkind t=10\/bkind t=11:=by
 unfold bkind
 repeat' split
 all_goals simp
theorem cle_mk{sts:List B}{hs:List Hd}{n:Nat}{ls:List B}{k o nn s:Nat}{y:B}{args:List CE}(hy:VT y)(h6:k≠6)(h4:k≠4)(h5:k≠5)(h7:k≠7)(ha:Er sts hs n ls args):ClE sts hs n ls (.mk k o nn [] s y args):=by
 rw[ClE];exact⟨hy,AJ rfl,h6,λ e=>absurd e h4,λ e=>absurd e h5,λ e=>absurd e h7,ha⟩
theorem N9{sts ls:List B}{c:Cx}(he:Dl sts ls c.env)(hh:HOk sts c.heads)(hn:c.number<=c.heads.length){k o nn:Nat}{t:B}{qs:List Q}(h4:k≠4)(h5:k≠5)(hq:Iq sts c.heads c.number ls qs):Good sts c.heads c.number ls (comb c k o nn t p qs):=by
 intro y e;unfold comb at e;split at e
 .cases e;exact cle_mk VT.int (by decide) (by decide) (by decide) (by decide) cle_nil
 split at e
 .cases e;exact cle_mk VT.bool (by decide) (by decide) (by decide) (by decide) cle_nil
 split at e
 .cases e
  rw[ClE];exact⟨VT.text,AI rfl,by decide,by simp,by simp,by simp,cle_nil⟩
 split at e
 .obtain⟨_,h1,e⟩:=bd e;have h2:=nd h1;simp at h2;cases e;have hm:=look_ok he t h2.1;rw[ClE];split
  .rename_i k1;rcases hm with h | h | h
   .exact⟨h.2.2,AJ rfl,by decide,by simp,λ _=>h.2.1,by simp,cle_nil⟩
   .omega
   .omega
  .rename_i k1;rcases hm with h | h | h
   .exact absurd h.1 k1
   .exact absurd h h2.2
   .exact⟨h.2.2,AJ rfl,by decide,λ _=>h.2.1,by simp,by simp,cle_nil⟩
 split at e
 .split at e
  .obtain⟨_,h1,e⟩:=bd e;obtain⟨_,h2,e⟩:=bd e;obtain⟨_,h3,e⟩:=bd e;obtain⟨xs,h8,e⟩:=bd e;have h1:=nd h1;have h2:=nd h2;have h3:=nd h3;cases e;simp at h1 h2 h3;have a3:(look c.env t).slot<c.heads.length:=by omega
   have a0:c.heads[(look c.env t).slot]?=some c.heads[(look c.env t).slot]:=AN a3;have hD:c.heads.getD (look c.env t).slot ⟨false,[],[]⟩=c.heads[(look c.env t).slot]:=by rw[getD_eq_getElem?_getD,a0];rfl
   simp only[<-getD_eq_getElem?_getD,hD] at h2 h3 h8 ⊢;obtain⟨a1,a2⟩:=Se hq h3 h8;rw[ClE];exact⟨hh.res _ (List.getElem_mem a3),AJ rfl,by decide,by simp,by simp,λ _=>⟨h1.2,_,a0,h2,rfl,a2⟩,a1⟩
  .rename_i hb;have hk:=Af8 t;obtain⟨_,h1,e⟩:=bd e;obtain⟨x,h2,e⟩:=bd e;obtain⟨_,h3,e⟩:=bd e;have g0:=hq.arg 0 x h2;split at e
   .obtain⟨y',h8,e⟩:=bd e;cases e;exact cle_mk (Af7 g0.vt) (by omega) (by omega) (by omega) (by omega) (Kk g0 (Bp (hq.arg 1) h8).1)
   .cases e
    exact cle_mk (Af7 g0.vt) (by omega) (by omega) (by omega) (by omega) (Du g0)
 split at e
 .obtain⟨x,h2,e⟩:=bd e;obtain⟨_,h3,e⟩:=bd e;obtain⟨y',h8,e⟩:=bd e;have h3:=nd h3;cases e;exact cle_mk (Yq h3).2 (by decide) (by decide) (by decide) (by decide) (Kk (hq.arg 0 x h2) (Bp (hq.arg 1) h8).1)
 split at e
 .obtain⟨x,h2,e⟩:=bd e;cases e;rename_i hk;exact cle_mk VT.int (by omega) (by omega) (by omega) (by omega) (Du (Bp (hq.arg 0) h2).1)
 split at e
 .obtain⟨x,h2,e⟩:=bd e;cases e;rename_i hk;exact cle_mk VT.bool (by omega) (by omega) (by omega) (by omega) (Du (Bp (hq.arg 0) h2).1)
 .obtain⟨x,h1,e⟩:=bd e;obtain⟨y',h2,e⟩:=bd e;obtain⟨_,h3,e⟩:=bd e;cases e;exact cle_mk (Ao7 (hq.arg 0 x h1).vt) (by assumption) h4 h5 (by assumption) (Kk (hq.arg 0 x h1) (hq.arg 1 y' h2))
mutual
theorem Bb9{sts ls:List B}{c:Cx}(he:Dl sts ls c.env)(hh:HOk sts c.heads)(hn:c.number<=c.heads.length):∀x:Ex,NoE x->Good sts c.heads c.number ls (cE c x)
 | .mk k o n t args p,h=>by
  rw[NoE] at h;rw[cE];exact N9 he hh hn h.1 h.2.1 (Gd he hh hn args h.2.2)
theorem Gd{sts ls:List B}{c:Cx}(he:Dl sts ls c.env)(hh:HOk sts c.heads)(hn:c.number<=c.heads.length):∀l:List Ex,Lt l->Iq sts c.heads c.number ls (cEs c l)
 | [],_=>by rw[cEs];trivial
 | .mk k o n t args p :: r,h=>by
  rw[Lt,NoE] at h;rw[cEs];refine⟨?_,Gd he hh hn r h.2⟩;show Good _ _ _ _ (cE c _);rw[cE];exact N9 he hh hn h.1.1 h.1.2.1 (Gd he hh hn args h.1.2.2)
end
theorem Jh{sts ls:List B}{env:Env}{n:B}{kind:Nat}{t:B}(hk:kind=3\/kind=4)(ht:VT t)(he:Dl sts ls env){e:Env × List B}(h:loc env ls n p kind t=.inl e):e.2=ls ++ [t]/\Dl sts e.2 e.1:=by
 obtain⟨e1,h1,h⟩:=bd h;obtain⟨_,h2,h⟩:=bd h;obtain⟨_,h3,h1⟩:=bd h1;cases h1;cases h;refine⟨rfl,λ x hx=>?_⟩;rcases mem_append.1 hx with hx | hx
 .exact he.more [t] x hx
 .simp at hx;subst hx;exact AJ (AJ ⟨hk,by simp,ht⟩)
theorem Wt{sts ls:List B}{env:Env}{n:B}{m:Mng}(he:Dl sts ls env)(h:targ env n p=.inl m):(m.kind=1/\m.slot<sts.length/\VT m.type)\/(m.kind=3/\m.slot<ls.length/\VT m.type):=by
 obtain⟨_,h1,h⟩:=bd h;obtain⟨_,h2,h⟩:=bd h;have h1:=nd h1;have h2:=nd h2;simp at h1 h2;cases h;rcases look_ok he n h1 with h | h | h
 .exact AI ⟨h.1,(AK h.2.1).1,h.2.2⟩
 .omega
 .exact AJ ⟨by omega,(AK h.2.1).1,h.2.2⟩
theorem cls_nil{sts:List B}{hs:List Hd}{n:Nat}{ls:List B}:Ft sts hs n ls []:=by rw[Ft];trivial
def SG(sts:List B)(hs:List Hd)(n:Nat)(ls:List B)(x:CS)(env':Env)(ls':List B):Prop:=(∃m,ls'=ls ++ m)/\Dl sts ls' env'/\ClS sts hs n ls' x
theorem Ji{sts ls:List B}{m:Mng}(h:(m.kind=1/\m.slot<sts.length/\VT m.type)\/(m.kind=3/\m.slot<ls.length/\VT m.type)){k:Nat}:k=4\/k=6\/((m.kind == 1)=true/\m.slot<sts.length)\/((m.kind == 1)=false/\m.slot<ls.length):=by
 rcases h with h | h
 .exact AJ (AJ (AI ⟨by rw[h.1];rfl,h.2.1⟩))
 .exact AJ (AJ (AJ ⟨by rw[h.1];rfl,h.2.1⟩))
mutual
theorem Wu{sts:List B}{k:Kx}(hh:HOk sts k.heads)(hn:k.number<=k.heads.length):∀(s:St) (env:Env) (ls:List B) (r:St1),Dl sts ls env->NoS s->cS k env ls s=.inl r->SG sts k.heads k.number ls r.1 r.2.1 r.2.2
 | .mk kind n es body other p,env,ls,r,he,hs,e=>by
  rw[NoS] at hs;obtain⟨hk,h1,h2,h3⟩:=hs;have hq:Iq sts k.heads k.number ls (cEs (k.at env) es):=Gd (c:=k.at env) he hh hn es h1;rw[cS] at e;split at e
  .obtain⟨x,a1,e⟩:=bd e;obtain⟨e1,a2,e⟩:=bd e;cases e;have g:=hq.arg 0 x a1;obtain⟨b1,b2⟩:=Jh (AI rfl) g.vt he a2;refine⟨⟨_,b1⟩,b2,?_⟩;show ClS sts k.heads k.number e1.2 _;rw[ClS,b1];exact⟨Du (g.more _),AJ (AJ (AJ ⟨rfl,by simp⟩)),cls_nil,cls_nil⟩
  split at e
  .obtain⟨m,a1,e⟩:=bd e;have hm:=Wt he a1;split at e
   .obtain⟨x,a2,e⟩:=bd e;cases e;refine⟨⟨[],by simp⟩,he,?_⟩;rw[ClS];exact⟨Du (Bp (hq.arg 0) a2).1,Ji hm,cls_nil,cls_nil⟩
   .obtain⟨_,a2,e⟩:=bd e;obtain⟨x,a3,e⟩:=bd e;obtain⟨y,a4,e⟩:=bd e;cases e;refine⟨⟨[],by simp⟩,he,?_⟩;rw[ClS];exact⟨Kk (Bp (hq.arg 0) a3).1 (Bp (hq.arg 1) a4).1,Ji hm,cls_nil,cls_nil⟩
  split at e
  .obtain⟨m,a1,e⟩:=bd e;have hm:=Wt he a1;obtain⟨_,a2,e⟩:=bd e;obtain⟨x,a3,e⟩:=bd e;cases e;refine⟨⟨[],by simp⟩,he,?_⟩;rw[ClS];exact⟨Du (Bp (hq.arg 0) a3).1,Ji hm,cls_nil,cls_nil⟩
  split at e
  .obtain⟨x,a1,e⟩:=bd e;obtain⟨a,a2,e⟩:=bd e;obtain⟨b,a3,e⟩:=bd e;cases e;obtain⟨⟨m1,b1⟩,b2,b3⟩:=Fc hh hn body env ls a he h2 a2;obtain⟨⟨m2,c1⟩,c2,c3⟩:=Fc hh hn other env a.2.2 b (by rw[b1];exact he.more m1) h3 a3;have hl:b.2.2=ls ++ (m1 ++ m2):=by rw[c1,b1,append_assoc]
   refine⟨⟨_,hl⟩,by show Dl sts b.2.2 env;rw[hl];exact he.more _,?_⟩;show ClS sts k.heads k.number b.2.2 _;rw[ClS];refine⟨?_,AI rfl,?_,c3⟩
   .rw[hl];exact Du ((Bp (hq.arg 0) a1).1.more _)
   .rw[c1];exact b3.more m2
  split at e
  .obtain⟨x,a1,e⟩:=bd e;obtain⟨e1,a2,e⟩:=bd e;obtain⟨a,a3,e⟩:=bd e;cases e;obtain⟨b1,b2⟩:=Jh (AJ rfl) VT.int he a2;obtain⟨⟨m1,c1⟩,c2,c3⟩:=Fc hh hn body e1.1 e1.2 a b2 h2 a3;have hl:a.2.2=ls ++ ([tInt] ++ m1):=by rw[c1,b1,append_assoc]
   refine⟨⟨_,hl⟩,by show Dl sts a.2.2 env;rw[hl];exact he.more _,?_⟩;show ClS sts k.heads k.number a.2.2 _;rw[ClS];refine⟨?_,AJ (AJ (AJ ⟨rfl,by rw[hl];simp⟩)),c3,cls_nil⟩;rw[hl];exact Du ((Bp (hq.arg 0) a1).1.more _)
  .obtain⟨x,a1,e⟩:=bd e;cases e;refine⟨⟨[],by simp⟩,he,?_⟩;rw[ClS];exact⟨Du (Bp (hq.arg 0) a1).1,AJ (AI (by omega)),cls_nil,cls_nil⟩
theorem Fc{sts:List B}{k:Kx}(hh:HOk sts k.heads)(hn:k.number<=k.heads.length):∀(l:List St) (env:Env) (ls:List B) (r:List CS × Env × List B),Dl sts ls env->J9 l->cSs k env ls l=.inl r->(∃m,r.2.2=ls ++ m)/\Dl sts r.2.2 r.2.1/\Ft sts k.heads k.number r.2.2 r.1
 | [],env,ls,r,he,_,e=>by
  rw[cSs] at e;cases e;exact⟨⟨[],by simp⟩,he,cls_nil⟩
 | s :: l,env,ls,r,he,hs,e=>by
  rw[J9] at hs;rw[cSs] at e;obtain⟨a,a1,e⟩:=bd e;obtain⟨b,a2,e⟩:=bd e;cases e;obtain⟨⟨m1,b1⟩,b2,b3⟩:=Wu hh hn s env ls a he hs.1 a1;obtain⟨⟨m2,c1⟩,c2,c3⟩:=Fc hh hn l a.2.1 a.2.2 b b2 hs.2 a2;refine⟨⟨m1 ++ m2,by show b.2.2=_;rw[c1,b1,append_assoc]⟩,c2,?_⟩;show Ft sts k.heads k.number b.2.2 _;rw[Ft];exact⟨by rw[c1];exact b3.more m2,c3⟩
end
end Ck
namespace Lx
def isVip(c:UInt8):Bool:=(c == 118 || c == 105) || c == 112
def hdDig:B->Bool
 | d :: _=>isDigit d
 | []=>false
def rn:Bool->B->B
 | _,[]=>[]
 | a,c :: r=>if isVip c && !a && hdDig r then 119 :: c :: rn (isPart c) r else c :: rn (isPart c) r
def rho:B->B
 | c :: r=>if isVip c && hdDig r then 119 :: c :: r else c :: r
 | []=>[]
def NoQ(l:B):Prop:=∀c∈l,c≠34/\c≠35/\c≠119
theorem NoQ.tail{c:UInt8}{r:B}(h:NoQ (c :: r)):NoQ r:=λ x hx=>h x (AH _ hx)
theorem NoQ.drop{l:B}(h:NoQ l)(n:Nat):NoQ (l.drop n):=λ x hx=>h x (mem_of_mem_drop hx)
theorem Lw{c:UInt8}(h:isVip c=true):isLetter c=true:=by
 simp only[isVip,Bool.or_eq_true,beq_iff_eq] at h;rcases h with (rfl | rfl) | rfl <;> decide
theorem Yr{c:UInt8}(h:isBlank c=true):isVip c=false/\isPart c=false:=by
 simp only[isBlank,Bool.or_eq_true,beq_iff_eq] at h;rcases h with (rfl | rfl) | rfl <;> decide
theorem Dv{a:Bool}{c:UInt8}{r:B}(h:isVip c=false\/a=true\/hdDig r=false):rn a (c :: r)=c :: rn (isPart c) r:=by
 rw[rn,if_neg];rcases h with h | h | h <;> simp[h]
theorem Ww:∀(l:B) (a:Bool),NoQ l->skipF false (rn a l)=skipF false l/\(rn a l).drop (skipF false l)=rn (a && skipF false l == 0) (l.drop (skipF false l))
 | [],a,_=>by simp[rn,skipF]
 | c :: r,a,h=>by
  have hc:=h c (AC ..);by_cases hb:isBlank c=true
  .obtain⟨h1,h2⟩:=Yr hb;obtain⟨i1,i2⟩:=Ww r false h.tail;rw[Dv (Or.inl h1),h2];simp only[skipF,hb,if_true,i1,true_and];rw[Nat.add_comm 1,drop_succ_cons,drop_succ_cons,i2];simp
  .have hs:skipF false (c :: r)=0:=by simp[skipF,hb,hc.2.1]
   rw[hs];simp only[drop_zero,beq_self_eq_true,Bool.and_true,and_true];rw[rn];split
   .simp[skipF,isBlank]
   .simp[skipF,hb,hc.2.1]
theorem Wx:∀(r:B),(rn true r).takeWhile isPart=r.takeWhile isPart/\(rn true r).drop (r.takeWhile isPart).length=rn true (r.drop (r.takeWhile isPart).length)
 | []=>by simp[rn]
 | c :: r=>by
  rw[Dv (Or.inr (Or.inl rfl))];by_cases hp:isPart c=true
  .obtain⟨i1,i2⟩:=Wx r;rw[hp];simp[hp,i1,i2]
  .simp only[takeWhile_cons,hp,if_false,length_nil,drop_zero];simp only[Bool.false_eq_true,if_false,length_nil,drop_zero,true_and];have a0:isPart c=false:=by simpa using hp
   rw[Dv (Or.inr (Or.inl rfl)),a0]
theorem Ly{c:UInt8}(h:isDigit c=true):isPart c=true/\isVip c=false:=by
 refine⟨by unfold isPart;rw[h];simp,?_⟩;cases hv:isVip c
 .rfl
 .simp only[isVip,Bool.or_eq_true,beq_iff_eq] at hv;rcases hv with (rfl | rfl) | rfl <;> exact absurd h (by decide)
theorem Ag3:∀(r:B),(rn true r).takeWhile isDigit=r.takeWhile isDigit/\(rn true r).drop (r.takeWhile isDigit).length=rn true (r.drop (r.takeWhile isDigit).length)
 | []=>by simp[rn]
 | c :: r=>by
  rw[Dv (Or.inr (Or.inl rfl))];by_cases hp:isDigit c=true
  .obtain⟨i1,i2⟩:=Ag3 r;rw[(Ly hp).1];simp[hp,i1,i2]
  .simp only[takeWhile_cons,hp,if_false,length_nil,drop_zero];simp only[Bool.false_eq_true,if_false,length_nil,drop_zero,true_and];exact (Dv (AJ (AI rfl))).symm
theorem Ao8{c:UInt8}{r:B}(hl:isLetter c=false)(hd:isDigit c=false)(a dot:Bool):markN dot (rn a (c :: r))=markN dot (c :: r)/\(rn a (c :: r)).take (markN dot (c :: r))=(c :: r).take (markN dot (c :: r))/\(rn a (c :: r)).drop (markN dot (c :: r))=rn (decide (markN dot (c :: r)=0) && a) ((c :: r).drop (markN dot (c :: r))):=by
 have hp:isPart c=false:=by unfold isPart;rw[hl,hd];rfl
 have hv:isVip c=false:=by
  cases h:isVip c
  .rfl
  .rw[Lw h] at hl;cases hl
 have e:rn a (c :: r)=c :: rn false r:=by rw[Dv (Or.inl hv),hp]
 have a0:two (c :: rn false r)=two (c :: r):=by
  match r with
  | []=>simp[rn]
  | b :: r'=>
   by_cases hb:isVip b && !false && hdDig r'
   .rw[rn,if_pos hb];have hv:isVip b=true:=by simp at hb;exact hb.1
    simp only[isVip,Bool.or_eq_true,beq_iff_eq] at hv;rcases hv with (rfl | rfl) | rfl <;> simp[two]
   .rw[rn,if_neg hb];simp[two]
 have hn:markN dot (rn a (c :: r))=markN dot (c :: r):=by rw[e];unfold markN;rw[a0]
 refine⟨hn,?_,?_⟩
 .rw[e];unfold markN;by_cases ht:two (c :: r)=true
  .rw[if_pos ht]
   match r,ht with
   | b :: r',ht=>
    have:isVip b=false:=by
     cases hv:isVip b
     .rfl
     .simp only[isVip,Bool.or_eq_true,beq_iff_eq] at hv;rcases hv with (rfl | rfl) | rfl <;> simp[two] at ht
    rw[Dv (Or.inl this)];simp
  .rw[if_neg ht];simp only;split <;> simp
 .unfold markN;by_cases ht:two (c :: r)=true
  .rw[if_pos ht]
   match r,ht with
   | b :: r',ht=>
    have:isVip b=false/\isPart b=false:=by
     refine⟨?_,?_⟩
     .cases hv:isVip b
      .rfl
      .simp only[isVip,Bool.or_eq_true,beq_iff_eq] at hv;rcases hv with (rfl | rfl) | rfl <;> simp[two] at ht
     .have hb:b=61\/b=38\/b=124:=by
       simp only[two,Bool.or_eq_true,Bool.and_eq_true,beq_iff_eq] at ht;rcases ht with (⟨h,_⟩ | ⟨_,h⟩) | ⟨_,h⟩
       .exact AI h
       .exact AJ (AI h)
       .exact AJ (AJ h)
      rcases hb with rfl | rfl | rfl <;> decide
    rw[e,Dv (Or.inl this.1),this.2];simp
  .rw[if_neg ht,e];simp only;split
   .simp
   .simp only[drop_zero,decide_true,Bool.true_and];exact e.symm
inductive NT:Bool->List Tok->List Tok->Prop
 | nil {b:Bool}:NT b [] []
 | cons {b:Bool} {t u:Tok} {l m:List Tok}:t.kind=u.kind->t.num=u.num->(t.kind=1->u.text=rho t.text\/(b=true/\u.text=t.text))->(t.kind≠1->u.text=t.text)->t.kind≠3->(∀c∈t.text,c≠119)->NT (t.kind == 2) l m->NT b (t :: l) (u :: m)
theorem As1{r:B}:hdDig (r.takeWhile isPart)=hdDig r:=by
 cases r with
 | nil=>rfl
 | cons d r=>
  by_cases hp:isPart d=true
  .simp[hdDig,hp]
  .have hd:isDigit d=false:=by
    cases h:isDigit d
    .rfl
    .exact absurd (Ly h).1 hp
   simp[hdDig,hp,hd]
theorem Ao9{r:B}:∀x,(r.drop (r.takeWhile isPart).length).head?=some x->isPart x=false:=by
 intro x hx;rw[tw_drop] at hx;cases hr:r.dropWhile isPart with
 | nil=>rw[hr] at hx;cases hx
 | cons y s=>
  rw[hr] at hx;cases hx;have:=List.head?_dropWhile_not isPart r;rw[hr] at this;simpa using this
theorem Aw2:∀(N:Nat) (l:B) (i i' c:Nat) (a b:Bool) (ts:List Tok),l.length<N->NoQ l->(a=true->b=true\/∀x,l.head?=some x->isPart x=false)->lexGo true l i c=.inl ts ->
  (∃us,lexGo true (rn a l) i' c=.inl us/\NT b ts us)\/∃p,lexGo true (rn a l) i' c=.inr (p,3):=by
 intro N;induction N with
 | zero=>intro l i i' c a b ts h;omega
 | succ N ih=>
  intro l i i' c a b ts hN hq hab h;obtain⟨hs,hd⟩:=Ww l a hq;rcases hl:l.drop (skipF false l) with _ | ⟨x,r⟩
  .rw[lexGo_end hl] at h;have ah:(rn a l).drop (skipF false (rn a l))=[]:=by rw[hs,hd,hl];simp[rn]
   rw[lexGo_end ah];split at h
   .rename_i hc;cases h;rw[if_pos hc];exact AI ⟨_,rfl,.cons rfl rfl (λ h=>by cases h) (λ _=>rfl) (by simp) (λ c hc=>by cases hc) .nil⟩
   .cases h
  .have ad:=congrArg List.length hl;simp at ad;have a8:NoQ (x :: r):=by rw[<-hl];exact hq.drop _
   have hx:=a8 x (AC ..);obtain⟨a',a9⟩:∃a',(a && skipF false l == 0)=a':=⟨_,rfl⟩;rw[a9,hl] at hd;have ai:a'=true->b=true\/isPart x=false:=by
    intro h1;rw[h1] at a9;simp only[Bool.and_eq_true,beq_iff_eq] at a9;rcases hab a9.1 with h2 | h2
    .exact AI h2
    .exact AJ (h2 x (by rw[a9.2] at hl;simp at hl;rw[hl];rfl))
   have af:(rn a l).drop (skipF false (rn a l))=rn a' (x :: r):=by rw[hs,hd]
   have key:∀(k:Nat) (t:B) (m n:Nat) (y:UInt8) (s:B) (t':B) (n':Nat) (a'':Bool),tokR true (x :: r)=R.ok k t m n->1<=n->rn a' (x :: r)=y :: s->tokR true (y :: s)=R.ok k t' m n'->1<=n'->(y :: s).drop n'=rn a'' ((x :: r).drop n) ->
     (k=1->t'=rho t\/(b=true/\t'=t))->(k≠1->t'=t)->k≠3->(∀c∈t,c≠119)->(a''=true->(k == 2)=true\/∀z,((x :: r).drop n).head?=some z->isPart z=false) ->
     (∃us,lexGo true (rn a l) i' c=.inl us/\NT b ts us)\/∃p,lexGo true (rn a l) i' c=.inr (p,3):=by
    intro k t m n y s t' n' a'' h1 hn h2 h3 hn' h4 k1 k2 k3 k4 k5;rw[lexGo_ok hl h1 hn] at h;split at h
    .rename_i hc;rcases hrest:lexGo true (l.drop (skipF false l+n)) (i+skipF false l+n) (c+1) with rest | e
     .rw[hrest] at h;simp only[Out.pre] at h;cases h;have e1:l.drop (skipF false l+n)=(x :: r).drop n:=by rw[<-drop_drop,hl]
      rw[e1] at hrest;have e2:(rn a l).drop (skipF false (rn a l)+n')=rn a'' ((x :: r).drop n):=by rw[<-drop_drop,af,h2,h4]
      rw[lexGo_ok (af.trans h2) h3 hn',if_pos hc,e2];have ag:((x :: r).drop n).length<N:=by simp;omega
      rcases ih _ _ (i'+skipF false (rn a l)+n') (c+1) a'' (k == 2) rest ag (a8.drop n) k5 hrest with⟨us,u1,u2⟩ | ⟨p,u1⟩
      .rw[u1];exact AI ⟨_,rfl,.cons rfl rfl k1 k2 k3 k4 u2⟩
      .rw[u1];exact AJ ⟨p,rfl⟩
     .rw[hrest] at h;simp only[Out.pre] at h;cases h
    .cases h
   by_cases hlx:isLetter x=true
   .have a3:isPart x=true:=by unfold isPart;rw[hlx];rfl
    have ht:tokR true (x :: r)=nameR (x :: r):=by simp only[tokR,hlx,if_true]
    have tw:(x :: r).takeWhile isPart=x :: r.takeWhile isPart:=by simp[a3]
    obtain⟨p1,p2⟩:=Wx r;have hw:∀c∈(x :: r).takeWhile isPart,c≠119:=λ c hc=>(a8 c ((takeWhile_sublist _).subset hc)).2.2
    unfold nameR at ht;split at ht
    .rename_i h16;rw[tw] at h16 ht hw;simp only[length_cons] at h16 ht;have a6:∀z,((x :: r).drop ((r.takeWhile isPart).length+1)).head?=some z->isPart z=false:=by
      rw[drop_succ_cons];exact Ao9
     by_cases hren:(isVip x && !a' && hdDig r)=true
     .have e:rn a' (x :: r)=119 :: x :: rn true r:=by rw[rn,if_pos hren,a3]
      have aa:rho (x :: r.takeWhile isPart)=119 :: x :: r.takeWhile isPart:=by
       rw[rho,if_pos];simp only[Bool.and_eq_true] at hren;rw[As1];simp[hren.1.1,hren.2]
      have a7:(119 :: x :: rn true r).takeWhile isPart=119 :: x :: r.takeWhile isPart:=by
       have:isPart 119=true:=by decide
       simp[this,a3,p1]
      by_cases h17:(r.takeWhile isPart).length+2<=16
      .refine key 1 _ 0 _ 119 (x :: rn true r) (119 :: x :: r.takeWhile isPart) ((r.takeWhile isPart).length+2) true ht (by omega) e ?_ (by omega) ?_ (λ _=>AI aa.symm) (λ h=>absurd rfl h) (by decide) hw (λ _=>AJ a6)
       .have ae:isLetter 119=true:=by decide
        simp only[tokR,ae,if_true,nameR,a7];rw[if_pos (by simp;omega)];simp
       .simp only[drop_succ_cons];exact p2
      .refine AJ ⟨_,lexGo_bad (af.trans e) (o:=0) (e:=3) ?_⟩;have ae:isLetter 119=true:=by decide
       simp only[tokR,ae,if_true,nameR,a7];rw[if_neg (by simp;omega)]
     .have e:rn a' (x :: r)=x :: rn true r:=by rw[rn,if_neg hren,a3]
      have a7:(x :: rn true r).takeWhile isPart=x :: r.takeWhile isPart:=by simp[a3,p1]
      refine key 1 _ 0 _ x (rn true r) (x :: r.takeWhile isPart) ((r.takeWhile isPart).length+1) true ht (by omega) e ?_ (by omega) ?_ ?_ (λ h=>absurd rfl h) (by decide) hw (λ _=>AJ a6)
      .simp only[tokR,hlx,if_true,nameR,a7];rw[if_pos (by simpa using h16)];simp
      .simp only[drop_succ_cons];exact p2
      .intro _;cases ha2:a'
       .refine AI ?_;rw[rho,if_neg];rw[As1];rw[ha2] at hren;simpa using hren
       .rcases ai ha2 with h1 | h1
        .exact AJ ⟨h1,rfl⟩
        .rw[a3] at h1;cases h1
    .rw[lexGo_bad hl ht] at h;cases h
   .have a0:isLetter x=false:=by simpa using hlx
    by_cases hdx:isDigit x=true
    .have ht:tokR true (x :: r)=numberR (x :: r):=by simp only[tokR,a0,hdx,if_true];simp
     obtain⟨a3,ab⟩:=Ly hdx;have e:rn a' (x :: r)=x :: rn true r:=by rw[Dv (Or.inl ab),a3]
     obtain⟨p1,p2⟩:=Ag3 r;have tw:(x :: r).takeWhile isDigit=x :: r.takeWhile isDigit:=by simp[hdx]
     have a7:(x :: rn true r).takeWhile isDigit=x :: r.takeWhile isDigit:=by simp[hdx,p1]
     have hw:∀c∈(x :: r).takeWhile isDigit,c≠119:=λ c hc=>(a8 c ((takeWhile_sublist _).subset hc)).2.2
     have a4:tokR true (x :: rn true r)=numberR (x :: r):=by
      have:tokR true (x :: rn true r)=numberR (x :: rn true r):=by simp only[tokR,a0,hdx,if_true];simp
      rw[this];unfold numberR;rw[tw,a7]
     rw[<-ht] at a4;unfold numberR at ht;split at ht
     .rw[lexGo_bad hl ht] at h;cases h
     .split at ht
      .rw[tw] at hw;rw[tw] at ht;rw[ht] at a4;simp only[length_cons] at ht a4;refine key 2 _ _ _ x (rn true r) _ ((r.takeWhile isDigit).length+1) true ht (by omega) e a4 (by omega) ?_ (λ h=>by cases h) (λ _=>rfl) (by decide) hw (λ _=>AI rfl);simp only[drop_succ_cons];exact p2
      .rw[lexGo_bad hl ht] at h;cases h
    .have a5:isDigit x=false:=by simpa using hdx
     have ht:tokR true (x :: r)=markR true (x :: r):=by simp only[tokR,a0,a5,hx.1];simp[hx.1]
     obtain⟨m1,m2,m3⟩:=Ao8 (r:=r) a0 a5 a' true;have a3:isPart x=false:=by unfold isPart;rw[a0,a5];rfl
     have ab:isVip x=false:=by
      cases hv:isVip x
      .rfl
      .rw[Lw hv] at a0;cases a0
     have e:rn a' (x :: r)=x :: rn false r:=by rw[Dv (Or.inl ab),a3]
     have a4:tokR true (x :: rn false r)=markR true (x :: rn false r):=by simp only[tokR,a0,a5,hx.1];simp[hx.1]
     rw[e] at m1 m2 m3;unfold markR at ht a4;rw[m1,m2] at a4;split at ht
     .rw[lexGo_bad hl ht] at h;cases h
     .rename_i h0;rw[if_neg h0] at a4;have hw:∀c∈(x :: r).take (markN true (x :: r)),c≠119:=λ c hc=>(a8 c (mem_of_mem_take hc)).2.2
      refine key 4 _ 0 _ x (rn false r) _ _ false ht (by omega) e a4 (by omega) ?_ (λ h=>by cases h) (λ _=>rfl) (by decide) hw (λ h=>by cases h);rw[m3];simp[h0]
theorem lexes_rn{l:B}{ts:List Tok}(hq:NoQ l)(h:lex true l=.inl ts):(∃us,lex true (rn false l)=.inl us/\NT false ts us)\/∃p,lex true (rn false l)=.inr (p,3):=by
 unfold lex at h ⊢;split at h
 .cases h
 .split
  .exact AJ ⟨_,rfl⟩
  .exact Aw2 (l.length+1) l 0 0 0 false false ts (by omega) hq (λ h=>by cases h) h
end Lx
end
end Go.Proofs.YtpckmjfabiallaaGreatDoor
