/- Texts of ours, joined. -/
import Derived.Test.YtpckmjfabiallaaGreatDoorG01
set_option linter.unusedVariables false
set_option linter.unusedSimpArgs false
set_option maxRecDepth 100000
set_option maxHeartbeats 16000000
namespace Go.Proofs.YtpckmjfabiallaaGreatDoor
variable{m p:Nat}
open List
section
namespace Px
open Lx (Tok B)
def Ex.k:Ex->Nat
 | .mk k _ _ _ _ _=>k
def Ex.o:Ex->Nat
 | .mk _ o _ _ _ _=>o
instance:Inhabited Ex:=⟨.mk 0 0 0 [] [] 0⟩
def mk4(x:B):Tok:=⟨4,x,0,0⟩
def wd(x:B):Tok:=⟨1,x,0,0⟩
def dgF:Nat->Nat->B
 | 0,_=>[]
 | f+1,n=>if n<10 then [UInt8.ofNat (48+n)] else dgF f (n / 10) ++ [UInt8.ofNat (48+n % 10)]
def dg(n:Nat):B:=dgF (n+1) n
def opL(o:Nat):Nat:=if o=1 then 1 else if o=2 then 2 else if 3<=o/\o<=8 then 3 else if o=9\/o=10 then 4 else if 11<=o/\o<=13 then 5 else 0
def opX(o:Nat):B:=([[],[124,124],[38,38],[61,61],[33,61],[60],[60,61],[62],[62,61],[43],[45],[42],[47],[37]]:List B).getD o []
theorem op_cases{o:Nat}(h1:1<=o)(h2:o<=13):o=1\/o=2\/o=3\/o=4\/o=5\/o=6\/o=7\/o=8\/o=9\/o=10\/o=11\/o=12\/o=13:=by omega
theorem H4{o:Nat}(h1:1<=o)(h2:o<=13):levelOf ⟨4,opX o,0,p⟩=(opL o,o):=by
 rcases op_cases h1 h2 with rfl | rfl | rfl | rfl | rfl | rfl | rfl | rfl | rfl | rfl | rfl | rfl | rfl <;> rfl
theorem opL_pos{o:Nat}(h1:1<=o)(h2:o<=13):1<=opL o/\opL o<=5:=by
 rcases op_cases h1 h2 with rfl | rfl | rfl | rfl | rfl | rfl | rfl | rfl | rfl | rfl | rfl | rfl | rfl <;> decide
theorem levelOf_cases(t:Tok):levelOf t=(0,0)\/(1<=(levelOf t).2/\(levelOf t).2<=13/\(levelOf t).1=opL (levelOf t).2):=by
 unfold levelOf;by_cases hk:t.kind=4
 case neg=>rw[if_neg hk];exact AI rfl
 rw[if_pos hk];by_cases h0:t.text=[124,124]
 case pos=>rw[if_pos h0];exact AJ (by decide)
 rw[if_neg h0];by_cases h1:t.text=[38,38]
 case pos=>rw[if_pos h1];exact AJ (by decide)
 rw[if_neg h1];by_cases h2:t.text=[61,61]
 case pos=>rw[if_pos h2];exact AJ (by decide)
 rw[if_neg h2];by_cases h3:t.text=[33,61]
 case pos=>rw[if_pos h3];exact AJ (by decide)
 rw[if_neg h3];by_cases h4:t.text=[60]
 case pos=>rw[if_pos h4];exact AJ (by decide)
 rw[if_neg h4];by_cases h5:t.text=[60,61]
 case pos=>rw[if_pos h5];exact AJ (by decide)
 rw[if_neg h5];by_cases h6:t.text=[62]
 case pos=>rw[if_pos h6];exact AJ (by decide)
 rw[if_neg h6];by_cases h7:t.text=[62,61]
 case pos=>rw[if_pos h7];exact AJ (by decide)
 rw[if_neg h7];by_cases h8:t.text=[43]
 case pos=>rw[if_pos h8];exact AJ (by decide)
 rw[if_neg h8];by_cases h9:t.text=[45]
 case pos=>rw[if_pos h9];exact AJ (by decide)
 rw[if_neg h9];by_cases h10:t.text=[42]
 case pos=>rw[if_pos h10];exact AJ (by decide)
 rw[if_neg h10];by_cases h11:t.text=[47]
 case pos=>rw[if_pos h11];exact AJ (by decide)
 rw[if_neg h11];by_cases h12:t.text=[37]
 case pos=>rw[if_pos h12];exact AJ (by decide)
 rw[if_neg h12];exact AI rfl
def lowE(n:Nat)(e:Ex):Bool:=(e.k == 15 && decide (opL e.o<n)) || (decide (6<n) && (e.k == 13 || e.k == 14))
def lv(o:Nat):Nat:=if opL o=3 then 4 else opL o
def within(b:Bool)(l:List Tok):List Tok:=if b then mk4 [40] :: (l ++ [mk4 [41]]) else l
def Ap:List (List Tok)->List Tok
 | []=>[]
 | [a]=>a
 | a :: b :: r=>a ++ mk4 [44] :: Ap (b :: r)
def exK(k o n:Nat)(t:B)(args:List Ex)(aS0:List (List Tok)):List Tok:=
 if k=1 then [⟨2,dg n,n,0⟩] else if k=2 then [wd (if n=1 then [116,114,117,101] else [102,97,108,115,101])] else if k=3 then [⟨3,t,0,0⟩] else if k=6 then [wd t]
 else if k=7 then wd t :: mk4 [40] :: (Ap aS0 ++ [mk4 [41]])
 else if k=12 then within (lowE 7 (args.getD 0 default)) (aS0.getD 0 []) ++ mk4 [91] :: (aS0.getD 1 [] ++ [mk4 [93]])
 else if k=13 then mk4 [45] :: within (lowE 6 (args.getD 0 default)) (aS0.getD 0 [])
 else if k=14 then mk4 [33] :: within (lowE 6 (args.getD 0 default)) (aS0.getD 0 [])
 else within (lowE (lv o) (args.getD 0 default)) (aS0.getD 0 []) ++ mk4 (opX o) :: within (lowE (opL o+1) (args.getD 1 default)) (aS0.getD 1 [])
mutual
def exT:Ex->List Tok
 | .mk k o n t args _=>exK k o n t args (exTs args)
def exTs:List Ex->List (List Tok)
 | []=>[]
 | e :: r=>exT e :: exTs r
end
def Dk:List Nat->Nat
 | []=>0
 | a :: r=>max a (Dk r)
def Lt(b:Bool)(d:Nat):Nat:=if b then d+1 else d
def dK(k o:Nat)(args:List Ex)(aS0:List Nat):Nat:=
 if k=7 then 1+Dk aS0
 else if k=12 then max (Lt (lowE 7 (args.getD 0 default)) (aS0.getD 0 0)) (1+aS0.getD 1 0)
 else if k=13\/k=14 then 1+Lt (lowE 6 (args.getD 0 default)) (aS0.getD 0 0)
 else if k=15 then max (Lt (lowE (lv o) (args.getD 0 default)) (aS0.getD 0 0)) (Lt (lowE (opL o+1) (args.getD 1 default)) (aS0.getD 1 0))
 else 1
mutual
def exD:Ex->Nat
 | .mk k o n t args _=>dK k o args (exDs args)
def exDs:List Ex->List Nat
 | []=>[]
 | e :: r=>exD e :: exDs r
end
theorem Rp:∀l,exTs l=l.map exT
 | []=>by simp[exTs]
 | e :: r=>by simp[exTs,Rp r]
theorem Rq:∀l,exDs l=l.map exD
 | []=>by simp[exDs]
 | e :: r=>by simp[exDs,Rq r]
def wT(n:Nat)(e:Ex):List Tok:=within (lowE n e) (exT e)
def wD(n:Nat)(e:Ex):Nat:=Lt (lowE n e) (exD e)
theorem exT_at(o n:Nat)(t:B)(a b:Ex)(p:Nat):exT (.mk 12 o n t [a,b] p)=wT 7 a ++ mk4 [91] :: (exT b ++ [mk4 [93]]):=by simp[exT,exK,exTs,wT]
theorem exT_neg(o n:Nat)(t:B)(a:Ex)(p:Nat):exT (.mk 13 o n t [a] p)=mk4 [45] :: wT 6 a:=by simp[exT,exK,exTs,wT]
theorem exT_not(o n:Nat)(t:B)(a:Ex)(p:Nat):exT (.mk 14 o n t [a] p)=mk4 [33] :: wT 6 a:=by simp[exT,exK,exTs,wT]
theorem exT_bin(o n:Nat)(t:B)(a b:Ex)(p:Nat):exT (.mk 15 o n t [a,b] p)=wT (lv o) a ++ mk4 (opX o) :: wT (opL o+1) b:=by simp[exT,exK,exTs,wT]
theorem exT_call(o n:Nat)(t:B)(a:List Ex)(p:Nat):exT (.mk 7 o n t a p)=wd t :: mk4 [40] :: (Ap (a.map exT) ++ [mk4 [41]]):=by simp[exT,exK,Rp]
theorem Ui(o n:Nat)(t:B)(a b:Ex)(p:Nat):exD (.mk 12 o n t [a,b] p)=max (wD 7 a) (1+exD b):=by simp[exD,dK,exDs,wD]
theorem exD_un(k o n:Nat)(t:B)(a:Ex)(p:Nat)(hk:k=13\/k=14):exD (.mk k o n t [a] p)=1+wD 6 a:=by
 rcases hk with rfl | rfl <;> simp[exD,dK,exDs,wD]
theorem Ws(o n:Nat)(t:B)(a b:Ex)(p:Nat):exD (.mk 15 o n t [a,b] p)=max (wD (lv o) a) (wD (opL o+1) b):=by simp[exD,dK,exDs,wD]
theorem Lu(o n:Nat)(t:B)(a:List Ex)(p:Nat):exD (.mk 7 o n t a p)=1+Dk (a.map exD):=by simp[exD,dK,Rq]
def Lv(V:Nat->B->Nat->Prop)(k o n:Nat)(t:B)(len:Nat):Prop:=
 (k=1/\o=0/\t=[]/\len=0/\∃x,V 2 x n)\/(k=2/\o=0/\t=[]/\len=0/\n<=1)\/(k=3/\o=0/\n=0/\len=0/\V 3 t 0)\/(k=6/\o=0/\n=0/\len=0/\reserved t=false/\V 1 t 0)\/(k=7/\o=0/\n=0/\reserved t=false/\V 1 t 0) \/
 (k=12/\o=0/\n=0/\t=[]/\len=2)\/((k=13\/k=14)/\o=0/\n=0/\t=[]/\len=1)\/(k=15/\1<=o/\o<=13/\n=0/\t=[]/\len=2)
mutual
def WfE(V:Nat->B->Nat->Prop):Ex->Prop
 | .mk k o n t args _=>Lv V k o n t args.length/\WfEs V args
def WfEs(V:Nat->B->Nat->Prop):List Ex->Prop
 | []=>True
 | e :: r=>WfE V e/\WfEs V r
end
theorem WfEs_all{V:Nat->B->Nat->Prop}:∀{l:List Ex},WfEs V l↔∀e∈l,WfE V e
 | []=>by simp[WfEs]
 | e :: r=>by simp[WfEs,WfEs_all (l:=r)]
def AllV(V:Nat->B->Nat->Prop)(l:List Tok):Prop:=∀t∈l,(t.kind=1->V 1 t.text 0)/\(t.kind=2->V 2 t.text t.num)/\(t.kind=3->V 3 t.text 0)
theorem AllV.suf{V:Nat->B->Nat->Prop}{l l':List Tok}(h:AllV V l)(s:l' <:+ l):AllV V l':=λ t ht=>h t (s.subset ht)
theorem Fa{n:Nat}{e:Ex}(h:m<=n)(hl:lowE m e=true):lowE n e=true:=by
 simp only[lowE,Bool.or_eq_true,Bool.and_eq_true,decide_eq_true_eq,beq_iff_eq] at hl ⊢;rcases hl with h1 | h1
 .exact AI ⟨h1.1,by omega⟩
 .exact AJ ⟨by omega,h1.2⟩
theorem within_len(b:Bool)(l:List Tok):(within b l).length=l.length+(if b then 2 else 0):=by
 cases b <;> simp[within]
theorem Pq{n:Nat}{e:Ex}(h:m<=n):(wT m e).length<=(wT n e).length:=by
 simp only[wT,within_len];rcases h1:lowE m e with _ | _
 .simp
 .rw[Fa h h1];simp
theorem Pt{n:Nat}{e:Ex}(h:m<=n):wD m e<=wD n e:=by
 simp only[wD,Lt];rcases h1:lowE m e with _ | _
 .simp;split <;> omega
 .rw[Fa h h1];simp
theorem Az6(n:Nat)(e:Ex):(wT n e).length<=(exT e).length+2:=by
 simp only[wT,within_len];split <;> omega
theorem Az7(n:Nat)(e:Ex):wD n e<=exD e+1:=by simp only[wD,Lt];split <;> omega
theorem Co{n:Nat}{e:Ex}(h:lowE n e=false):wT n e=exT e:=by simp[wT,h,within]
theorem Cy{n:Nat}{e:Ex}(h:lowE n e=false):wD n e=exD e:=by simp[wD,h,Lt]
def Sm(V:Nat->B->Nat->Prop)(n k:Nat)(q:P Ex):Prop:=∀l e l',AllV V l->q l=.inl (e,l')->WfE V e/\wD n e<=k/\(wT n e).length+l'.length<=l.length/\l' <:+ l
theorem bind_some{α β:Type}{r:R α}{f:α->List Tok->R β}{y:β}{l':List Tok}(h:bind r f=.inl (y,l')):∃x l,r=.inl (x,l)/\f x l=.inl (y,l'):=by
 match r,h with
 | .inl (x,l),h=>exact⟨x,l,rfl,h⟩
 | .inr e,h=>simp[bind] at h
theorem H5{k:Nat}{x:B}{l l':List Tok}{u:Unit}(h:needK k x l=.inl (u,l')):∃t,l=t :: l'/\t.kind=k/\t.text=x:=by
 unfold needK at h;split at h
 .rename_i hs;obtain⟨t,r,rfl,h1,h2⟩:=sees_head hs;simp at h;exact⟨t,by rw[<-h],h1,h2⟩
 .simp[fail] at h
theorem need_some{x:B}{l l':List Tok}{u:Unit}(h:need x l=.inl (u,l')):∃t,l=t :: l':=by
 obtain⟨t,h1,_⟩:=H5 h;exact⟨t,h1⟩
theorem Dt{l l':List Tok}{t:Tok}(h:name l=.inl (t,l')):l=t :: l'/\t.kind=1/\reserved t.text=false:=by
 unfold name at h;split at h
 .rename_i t2 r;split at h
  .rename_i hh;simp at h;obtain⟨rfl,rfl⟩:=h;exact⟨rfl,hh⟩
  .simp[fail] at h
 .simp[fail] at h
theorem Az8(o:Nat):lv o<=opL o+1:=by unfold lv;split <;> omega
theorem Rr{V:Nat->B->Nat->Prop}{n k:Nat}{q:P Ex}(hn:1<=n)(hq:Sm V (n+1) k q):∀(f c:Nat) (acc:Ex) (l:List Tok) (e:Ex) (l':List Tok),AllV V l->WfE V acc->(0<c->acc.k=15/\opL acc.o=n) ->
  chain n q f c acc l=.inl (e,l')->(c=0->wD (n+1) acc<=k)->(0<c->exD acc<=k)->WfE V e/\wD n e<=k/\(wT n e).length+l'.length<=(if c=0 then (wT (n+1) acc).length else (exT acc).length)+l.length/\l' <:+ l
 | 0,_,_,_,_,_,_,_,_,h,_,_=>by simp[chain] at h
 | f+1,c,acc,[],e,l',_,_,_,h,_,_=>by simp[chain] at h
 | f+1,c,acc,t :: r,e,l',hV,hw,hc,h,hd0,hd1=>by
  simp only[chain] at h;split at h
  .rename_i hl;split at h
   .simp[fail] at h
   .rename_i h3;obtain⟨x,l1,hx,h⟩:=bind_some h;obtain⟨w1,w2,w3,w4⟩:=hq r x l1 (hV.suf (AE _ _)) hx;obtain⟨o,ho⟩:∃o,o=(levelOf t).2:=⟨_,rfl⟩;have a4:1<=o/\o<=13/\n=opL o:=by
     rcases levelOf_cases t with h0 | h0
     .rw[h0] at hl;simp at hl;omega
     .rw[ho];exact⟨h0.1,h0.2.1,by rw[<-hl];exact h0.2.2⟩
    rw[<-ho] at h;have a5:wD (lv o) acc<=k/\(wT (lv o) acc).length<=(if c=0 then (wT (n+1) acc).length else (exT acc).length):=by
     by_cases hc0:c=0
     .rw[if_pos hc0];have a7:=Az8 o;rw[<-a4.2.2] at a7;exact⟨AP (Pt a7) (hd0 hc0),Pq a7⟩
     .rw[if_neg hc0];have hk:=hc (by omega);have a8:n≠3:=λ e=>h3 ⟨e,by omega⟩
      have a0:lowE (lv o) acc=false:=by
       have:lv o=n:=by unfold lv;rw[<-a4.2.2,if_neg a8]
       rw[this];have h5:=(opL_pos a4.1 a4.2.1).2;simp[lowE,hk.1,hk.2]
      rw[Cy a0,Co a0];exact⟨hd1 (by omega),AD _⟩
    have a6:WfE V (.mk 15 o 0 [] [acc,x] t.place):=by
     simp only[WfE,WfEs,Lv];exact⟨by simp;exact⟨a4.1,a4.2.1⟩,hw,w1,trivial⟩
    have a9:exD (.mk 15 o 0 [] [acc,x] t.place)<=k:=by
     rw[Ws,<-a4.2.2];exact Nat.max_le.2 ⟨a5.1,w2⟩
    have a3:=Rr hn hq f (c+1) _ l1 e l' (hV.suf (w4.trans (AE _ _))) a6 (λ _=>⟨rfl,a4.2.2.symm⟩) h (λ h0=>by omega) (λ _=>a9);rw[if_neg (by omega)] at a3;refine⟨a3.1,a3.2.1,?_,a3.2.2.2.trans (w4.trans (AE _ _))⟩;have h1:=a3.2.2.1;have h2:=a5.2;rw[exT_bin,<-a4.2.2] at h1;simp only[length_append,length_cons] at h1 ⊢;omega
  .simp at h;obtain⟨rfl,rfl⟩:=h;refine⟨hw,?_,?_,suffix_refl _⟩
   .by_cases hc0:c=0
    .exact AP (Pt (show n<=n+1 by omega)) (hd0 hc0)
    .have hk:=hc (by omega);have a0:lowE n acc=false:=by
      simp[lowE,hk.1,hk.2]
     rw[Cy a0];exact hd1 (by omega)
   .by_cases hc0:c=0
    .rw[if_pos hc0];have:=Pq (e:=acc) (show n<=n+1 by omega);omega
    .rw[if_neg hc0];have hk:=hc (by omega);have a0:lowE n acc=false:=by
      simp[lowE,hk.1,hk.2]
     rw[Co a0];omega
theorem Gd{V:Nat->B->Nat->Prop}{n k:Nat}{q:P Ex}(hn:1<=n)(hq:Sm V (n+1) k q):Sm V n k (level n q):=by
 intro l e l' hV h;obtain⟨x,l1,hx,h⟩:=bind_some h;obtain⟨w1,w2,w3,w4⟩:=hq l x l1 hV hx;have:=Rr hn hq _ 0 x l1 e l' (hV.suf w4) w1 (λ h=>by omega) h (λ _=>w2) (λ h=>by omega);rw[if_pos rfl] at this;exact⟨this.1,this.2.1,by omega,this.2.2.2.trans w4⟩
theorem Ab3{V:Nat->B->Nat->Prop}{k:Nat}{q:P Ex}(hq:Sm V 6 k q):Sm V 1 k (lvl q):=
 Gd (by decide) (Gd (by decide) (Gd (by decide) (Gd (by decide) (Gd (by decide) hq))))
theorem Kb{V:Nat->B->Nat->Prop}{e:Ex}(h:WfE V e):lowE 1 e=false:=by
 match e,h with
 | .mk k o n t args p,h=>
  simp only[WfE] at h;simp only[lowE,Ex.k,Ex.o];rcases h.1 with h | h | h | h | h | h | h | h
  all_goals try (simp[h.1];done)
  .rcases h.1 with h | h <;> simp[h]
  .have:=(opL_pos h.2.1 h.2.2.1).1;simp[h.1];omega
theorem Ab4{V:Nat->B->Nat->Prop}{k:Nat}{e:P Ex}(he:Sm V 1 k e):∀(f:Nat) (acc:Ex) (l:List Tok) (x:Ex) (l':List Tok),AllV V l->WfE V acc->wD 7 acc<=k+1->ats e f acc l=.inl (x,l')->WfE V x/\wD 7 x<=k+1/\(wT 7 x).length+l'.length<=(wT 7 acc).length+l.length/\l' <:+ l
 | 0,_,_,_,_,_,_,_,h=>by simp[ats] at h
 | f+1,acc,l,x,l',hV,hw,hd,h=>by
  simp only[ats] at h;split at h
  .rename_i hs;obtain⟨t,r,rfl,_,_⟩:=sees_head hs;obtain⟨y,l1,hy,h1⟩:=bind_some h;obtain⟨u,l2,hu,h2⟩:=bind_some h1;clear h h1;obtain⟨t2,rfl⟩:=need_some hu;simp only[tail_cons] at hy;have h:=h2;obtain⟨w1,w2,w3,w4⟩:=he r y (t2 :: l2) (hV.suf (AE _ _)) hy;have a3:=Kb w1;rw[Cy a3] at w2;rw[Co a3] at w3;have a5:l2 <:+ t :: r:=((AE _ _).trans w4).trans (AE _ _);have a4:lowE 7 (.mk 12 0 0 [] [acc,y] (place (t :: r)))=false:=by simp[lowE,Ex.k]
   have a0:=Ab4 he f (.mk 12 0 0 [] [acc,y] (place (t :: r))) l2 x l' (hV.suf a5) (by simp only[WfE,WfEs,Lv];exact⟨by simp,hw,w1,trivial⟩) (by rw[Cy a4,Ui];exact Nat.max_le.2 ⟨hd,by omega⟩) h;refine⟨a0.1,a0.2.1,?_,a0.2.2.2.trans a5⟩;have h1:=a0.2.2.1;rw[Co a4,exT_at] at h1;simp only[length_append,length_cons,length_nil] at h1 w3 ⊢;omega
  .simp at h;obtain⟨rfl,rfl⟩:=h;exact⟨hw,hd,AD _,suffix_refl _⟩
theorem commas_snoc:∀(a:List (List Tok)) (x:List Tok),(Ap (a ++ [x])).length=(Ap a).length+x.length+(if a=[] then 0 else 1)
 | [],x=>by simp[Ap]
 | [a],x=>by simp[Ap];omega
 | a :: b :: r,x=>by
  have:=commas_snoc (b :: r) x;simp only[cons_append,Ap,length_append,length_cons] at this ⊢;simp at this ⊢;omega
theorem Ny:∀(a:List Nat) (x:Nat),Dk (a ++ [x])=max (Dk a) x
 | [],x=>by simp[Dk]
 | a :: r,x=>by simp only[cons_append,Dk,Ny r x];omega
theorem sep_some{n:Nat}{l l':List Tok}{u:Unit}(h:sep n l=.inl (u,l')):(n=0/\l=l')\/(0<n/\∃t,l=t :: l'):=by
 unfold sep at h;split at h
 .rename_i hn;simp at h;exact AI ⟨hn,h⟩
 .rename_i hn;exact AJ ⟨by omega,need_some h⟩
theorem Rs{V:Nat->B->Nat->Prop}{k:Nat}{e:P Ex}(he:Sm V 1 k e):∀(f n:Nat) (acc:List Ex) (l:List Tok) (xs:List Ex) (l':List Tok),AllV V l->(∀x∈acc,WfE V x)->n=acc.length->Dk (acc.map exD)<=k->items e f n acc l=.inl (xs,l') ->
  (∀x∈xs,WfE V x)/\Dk (xs.map exD)<=k/\(Ap (xs.map exT)).length+l'.length+1<=(Ap (acc.map exT)).length+l.length/\l' <:+ l
 | 0,_,_,_,_,_,_,_,_,_,h=>by simp[items] at h
 | f+1,n,acc,l,xs,l',hV,hw,hn,hd,h=>by
  simp only[items] at h;split at h
  .rename_i hs;obtain⟨t,r,rfl,_,_⟩:=sees_head hs;simp at h;obtain⟨rfl,rfl⟩:=h;exact⟨hw,hd,by simp;omega,AE _ _⟩
  .obtain⟨u,l1,hu,h⟩:=bind_some h;obtain⟨y,l2,hy,h⟩:=bind_some h;have a4:l1 <:+ l:=by
    rcases sep_some hu with⟨_,rfl⟩ | ⟨_,t,rfl⟩
    .exact suffix_refl _
    .exact AE _ _
   obtain⟨w1,w2,w3,w4⟩:=he l1 y l2 (hV.suf a4) hy;have a3:=Kb w1;rw[Cy a3] at w2;rw[Co a3] at w3;have a0:=Rs he f (n+1) (acc ++ [y]) l2 xs l' (hV.suf (w4.trans a4)) (λ x hx=>by simp at hx;rcases hx with hx | rfl;exact hw x hx;exact w1) (by simp[hn]) (by rw[map_append,map_cons,map_nil,Ny];exact Nat.max_le.2 ⟨hd,w2⟩) h;refine⟨a0.1,a0.2.1,?_,a0.2.2.2.trans (w4.trans a4)⟩;have h1:=a0.2.2.1;rw[map_append,map_cons,map_nil,commas_snoc] at h1;rcases sep_some hu with⟨h0,rfl⟩ | ⟨h0,t,rfl⟩
   .have:acc=[]:=length_eq_zero_iff.1 (by omega);subst this;simp only[map_nil,if_true] at h1 ⊢;omega
   .have:¬acc.map exT=[]:=by
     intro e;rw[map_eq_nil_iff] at e;subst e;simp at hn;omega
    rw[if_neg this] at h1;simp only[length_cons] at h1 w3 ⊢;omega
theorem Uj{V:Nat->B->Nat->Prop}{k:Nat}{e:P Ex}(he:Sm V 1 k e):Sm V 7 (k+1) (primary e):=by
 intro l x l' hV h
 match l,hV,h with
 | [],hV,h=>simp[primary,fail] at h
 | t :: r,hV,h=>
  have a4:=hV t (by simp);simp only[primary] at h;split at h
  .rename_i hk;simp at h;obtain⟨rfl,rfl⟩:=h;have a0:lowE 7 (.mk 1 0 t.num [] [] t.place)=false:=by simp[lowE,Ex.k]
   refine⟨by rw[WfE,WfEs];exact⟨AI ⟨rfl,rfl,rfl,rfl,t.text,a4.2.1 hk⟩,trivial⟩,?_,?_,AE _ _⟩
   .rw[Cy a0];simp[exD,dK]
   .rw[Co a0];simp[exT,exK];omega
  split at h
  .rename_i hk;simp at h;obtain⟨rfl,rfl⟩:=h;have a0:lowE 7 (.mk 3 0 0 t.text [] t.place)=false:=by simp[lowE,Ex.k]
   refine⟨by rw[WfE,WfEs];exact⟨AJ (AJ (AI ⟨rfl,rfl,rfl,rfl,a4.2.2 hk⟩)),trivial⟩,?_,?_,AE _ _⟩
   .rw[Cy a0];simp[exD,dK]
   .rw[Co a0];simp[exT,exK];omega
  split at h
  .simp at h;obtain⟨rfl,rfl⟩:=h;have a0:lowE 7 (.mk 2 0 1 [] [] t.place)=false:=by simp[lowE,Ex.k]
   refine⟨by rw[WfE,WfEs];exact⟨AJ (AI ⟨rfl,rfl,rfl,rfl,by decide⟩),trivial⟩,?_,?_,AE _ _⟩
   .rw[Cy a0];simp[exD,dK]
   .rw[Co a0];simp[exT,exK];omega
  split at h
  .simp at h;obtain⟨rfl,rfl⟩:=h;have a0:lowE 7 (.mk 2 0 0 [] [] t.place)=false:=by simp[lowE,Ex.k]
   refine⟨by rw[WfE,WfEs];exact⟨AJ (AI ⟨rfl,rfl,rfl,rfl,by decide⟩),trivial⟩,?_,?_,AE _ _⟩
   .rw[Cy a0];simp[exD,dK]
   .rw[Co a0];simp[exT,exK];omega
  split at h
  .obtain⟨y,l1,hy,h1⟩:=bind_some h;obtain⟨u,l2,hu,h2⟩:=bind_some h1;clear h h1;obtain⟨t2,rfl⟩:=need_some hu;have h:=h2;simp at h;obtain⟨rfl,rfl⟩:=h;obtain⟨w1,w2,w3,w4⟩:=he r y (t2 :: l2) (hV.suf (AE _ _)) hy;have a3:=Kb w1;rw[Cy a3] at w2;rw[Co a3] at w3;have h1:=Az7 7 y;have h2:=Az6 7 y;simp only[length_cons] at w3 ⊢;exact⟨w1,by omega,by omega,((AE _ _).trans w4).trans (AE _ _)⟩
  .obtain⟨t1,l1,ht,h⟩:=bind_some h;obtain⟨hl,hk,hr⟩:=Dt ht;simp at hl;obtain⟨rfl,rfl⟩:=hl;split at h
   .rename_i hs;obtain⟨t2,r2,rfl,_,_⟩:=sees_head hs;obtain⟨xs,l2,hx,h⟩:=bind_some h;simp at h;obtain⟨rfl,rfl⟩:=h;simp only[tail_cons] at hx;have hi:=Rs he _ 0 [] r2 xs l2 (hV.suf ((AE _ _).trans (AE _ _))) (λ x hx=>by simp at hx) rfl (by simp[Dk]) hx;have a0:lowE 7 (.mk 7 0 0 t.text xs t.place)=false:=by simp[lowE,Ex.k]
    refine⟨by simp only[WfE,Lv];exact⟨by simp[hr,a4.1 hk],WfEs_all.2 hi.1⟩,?_,?_,hi.2.2.2.trans ((AE _ _).trans (AE _ _))⟩
    .rw[Cy a0,Lu];have:=hi.2.1;omega
    .rw[Co a0,exT_call];have:=hi.2.2.1;simp[Ap] at this ⊢;omega
   .simp at h;obtain⟨rfl,rfl⟩:=h;have a0:lowE 7 (.mk 6 0 0 t.text [] t.place)=false:=by simp[lowE,Ex.k]
    refine⟨by simp only[WfE,WfEs,Lv];exact⟨by simp[hr,a4.1 hk],trivial⟩,?_,?_,AE _ _⟩
    .rw[Cy a0];simp[exD,dK]
    .rw[Co a0];simp[exT,exK];omega
theorem Iy(V:Nat->B->Nat->Prop):∀k,Sm V 6 k (unary k)
 | 0=>by intro l e l' hV h;simp[unary,fail] at h
 | k+1=>by
  intro l e l' hV h;simp only[unary] at h;split at h
  .rename_i hs;obtain⟨t,r,rfl,_,_⟩:=sees_head hs;obtain⟨y,l1,hy,h⟩:=bind_some h;simp at h;obtain⟨rfl,rfl⟩:=h;simp only[tail_cons] at hy;obtain⟨w1,w2,w3,w4⟩:=Iy V k r y l1 (hV.suf (AE _ _)) hy;have a0:lowE 6 (.mk 13 0 0 [] [y] (place (t :: r)))=false:=by simp[lowE,Ex.k]
   refine⟨by simp only[WfE,WfEs,Lv];exact⟨by simp,w1,trivial⟩,?_,?_,w4.trans (AE _ _)⟩
   .rw[Cy a0,exD_un _ _ _ _ _ _ (Or.inl rfl)];omega
   .rw[Co a0,exT_neg];simp only[length_cons];omega
  split at h
  .rename_i hs;obtain⟨t,r,rfl,_,_⟩:=sees_head hs;obtain⟨y,l1,hy,h⟩:=bind_some h;simp at h;obtain⟨rfl,rfl⟩:=h;simp only[tail_cons] at hy;obtain⟨w1,w2,w3,w4⟩:=Iy V k r y l1 (hV.suf (AE _ _)) hy;have a0:lowE 6 (.mk 14 0 0 [] [y] (place (t :: r)))=false:=by simp[lowE,Ex.k]
   refine⟨by simp only[WfE,WfEs,Lv];exact⟨by simp,w1,trivial⟩,?_,?_,w4.trans (AE _ _)⟩
   .rw[Cy a0,exD_un _ _ _ _ _ _ (Or.inr rfl)];omega
   .rw[Co a0,exT_not];simp only[length_cons];omega
  .obtain⟨y,l1,hy,h⟩:=bind_some h;have he:=Ab3 (Iy V k);obtain⟨w1,w2,w3,w4⟩:=Uj he l y l1 hV hy;have ha:=Ab4 he _ y l1 e l' (hV.suf w4) w1 w2 h;exact⟨ha.1,AP (Pt (by decide)) ha.2.1,by have:=Pq (e:=e) (show 6<=7 by decide);have:=ha.2.2.1;omega,ha.2.2.2.trans w4⟩
theorem Ey(V:Nat->B->Nat->Prop)(k:Nat){l l':List Tok}{e:Ex}(hV:AllV V l)(h:Jl k l=.inl (e,l')):WfE V e/\exD e<=k/\(exT e).length+l'.length<=l.length/\l' <:+ l:=by
 obtain⟨w1,w2,w3,w4⟩:=Ab3 (Iy V k) l e l' hV h;have a0:=Kb w1;rw[Cy a0] at w2;rw[Co a0] at w3;exact⟨w1,w2,w3,w4⟩
end Px
namespace Px
open Lx (Tok B)
inductive Ins:List Tok->List Tok->Prop
 | nil:Ins [] []
 | cons {t u:Tok} {l m:List Tok}:TS t u->Ins l m->Ins (t :: l) (u :: m)
 | wrap {t u a b:Tok} {l m:List Tok}:t.kind=2->TS t u->a.kind=4->a.text=[40]->b.kind=4->b.text=[41]->Ins l m->Ins (t :: l) (a :: u :: b :: m)
end Px
end
end Go.Proofs.YtpckmjfabiallaaGreatDoor
