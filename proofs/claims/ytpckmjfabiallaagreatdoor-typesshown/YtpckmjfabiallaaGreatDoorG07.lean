/- Texts of ours, joined. -/
import Derived.Test.YtpckmjfabiallaaGreatDoorG04
import Derived.Test.YtpckmjfabiallaaGreatDoorG03
set_option linter.unusedVariables false
set_option linter.unusedSimpArgs false
set_option maxRecDepth 100000
set_option maxHeartbeats 16000000
namespace Go.Proofs.YtpckmjfabiallaaGreatDoor
variable{j m p:Nat}
open List
section
namespace Px
open Lx (Tok B)
theorem Uk{t:Tok}(h:(levelOf t).1≠0):t.kind=4:=by
 by_cases hk:t.kind=4
 .exact hk
 .unfold levelOf at h;rw[if_neg hk] at h;simp at h
theorem chain_fuel{n:Nat}{q:P Ex}(hn:0<n)(hq:Ok q):∀(f g c:Nat) (acc:Ex) (l:List Tok),Good l->l.length<f->l.length<g->chain n q f c acc l=chain n q g c acc l
 | 0,_,_,_,_,_,h,_=>by omega
 | _,0,_,_,_,_,_,h=>by omega
 | f+1,g+1,c,acc,[],hg,_,_=>by exact absurd hg (by simp[Good])
 | f+1,g+1,c,acc,t :: r,hg,h1,h2=>by
  simp only[chain];by_cases hl:(levelOf t).1=n
  .rw[if_pos hl,if_pos hl];split
   .rfl
   .have hk:=Uk (t:=t) (by omega);have a0:=hg.tail (by omega);refine bind_congr λ x l1 e1=>?_
    have a1:=(hq r a0).ok x l1 e1;have:=a1.less;simp only[length_cons] at h1 h2;exact chain_fuel hn hq f g (c+1) _ l1 a1.good (by omega) (by omega)
  .rw[if_neg hl,if_neg hl]
theorem items_fuel{α:Type}{q:P α}(hq:Ok q):∀(f g n:Nat) (acc:List α) (l:List Tok),Good l->l.length<f->l.length<g->items q f n acc l=items q g n acc l
 | 0,_,_,_,_,_,h,_=>by omega
 | _,0,_,_,_,_,_,h=>by omega
 | f+1,g+1,n,acc,l,hg,h1,h2=>by
  simp only[items];split
  .rfl
  .refine bind_congr λ u l1 e1=>bind_congr λ x l2 e2=>?_
   have a1:=(sep_res hg).ok u l1 e1;have a2:=(hq l1 a1.good).ok x l2 e2;exact items_fuel hq f g (n+1) _ l2 a2.good (by have:=a1.less;have:=a2.less;omega) (by have:=a1.less;have:=a2.less;omega)
theorem ats_fuel{e:P Ex}(he:Ok e):∀(f g:Nat) (acc:Ex) (l:List Tok),Good l->l.length<f->l.length<g->ats e f acc l=ats e g acc l
 | 0,_,_,_,_,h,_=>by omega
 | _,0,_,_,_,_,h=>by omega
 | f+1,g+1,acc,l,hg,h1,h2=>by
  simp only[ats];split
  .rename_i hs;have a:=sees4 hs hg;refine bind_congr λ x l1 e1=>bind_congr λ u l2 e2=>?_
   have a1:=(he _ a.good).ok x l1 e1;have a2:=(need_res a1.good).ok u l2 e2;exact ats_fuel he f g _ l2 a2.good (by have:=a.less;have:=a1.less;have:=a2.less;omega) (by have:=a.less;have:=a1.less;have:=a2.less;omega)
  .rfl
theorem Bz:∀{a l:List Tok},(∀t∈a,t.kind≠5)->Good l->Good (a ++ l)
 | [],l,_,hg=>hg
 | [t],l,h,hg=>by
  match l,hg with
  | u :: r,hg=>exact⟨h t (by simp),hg⟩
 | t :: u :: r,l,h,hg=>⟨h t (by simp),Bz (a:=u :: r) (λ x hx=>h x (by simp at hx ⊢;exact AJ hx)) hg⟩
theorem Du{b:Bool}{l:List Tok}(h:∀t∈l,t.kind≠5):∀t∈within b l,t.kind≠5:=by
 intro t ht;cases b
 .exact h t ht
 .simp only[within,if_true,mem_cons,mem_append,not_mem_nil,or_false] at ht;rcases ht with rfl | ht | rfl
  .simp[mk4]
  .exact h t ht
  .simp[mk4]
theorem H6:∀{a:List (List Tok)},(∀l∈a,∀t∈l,t.kind≠5)->∀t∈Ap a,t.kind≠5
 | [],_,t,ht=>by simp[Ap] at ht
 | [a],h,t,ht=>h a (by simp) t (by simpa [Ap] using ht)
 | a :: b :: r,h,t,ht=>by
  simp only[Ap,mem_append,mem_cons] at ht;rcases ht with ht | rfl | ht
  .exact h a (by simp) t ht
  .simp[mk4]
  .exact H6 (a:=b :: r) (λ l hl=>h l (by simp at hl ⊢;exact AJ hl)) t ht
theorem D3{a0:List (List Tok)}(i:Nat)(h:∀l∈a0,∀t∈l,t.kind≠5):∀t∈a0.getD i [],t.kind≠5:=by
 intro t ht;rw[getD_eq_getElem?_getD] at ht;rcases hh:a0[i]? with _ | l
 .rw[hh] at ht;simp at ht
 .rw[hh] at ht;exact h l (mem_of_getElem? hh) t ht
theorem An9{k o n:Nat}{t:B}{args:List Ex}{a0:List (List Tok)}(h:∀l∈a0,∀t∈l,t.kind≠5):∀u∈exK k o n t args a0,u.kind≠5:=by
 intro u hu;unfold exK at hu;split at hu
 .simp at hu;rw[hu];simp
 split at hu
 .simp at hu;rw[hu];simp[wd]
 split at hu
 .simp at hu;rw[hu];simp
 split at hu
 .simp at hu;rw[hu];simp[wd]
 split at hu
 .simp only[mem_cons,mem_append,not_mem_nil,or_false] at hu;rcases hu with rfl | rfl | hu | rfl
  .simp[wd]
  .simp[mk4]
  .exact H6 h u hu
  .simp[mk4]
 split at hu
 .simp only[mem_cons,mem_append,not_mem_nil,or_false] at hu;rcases hu with hu | rfl | hu | rfl
  .exact Du (D3 0 h) u hu
  .simp[mk4]
  .exact D3 1 h u hu
  .simp[mk4]
 split at hu
 .simp only[mem_cons] at hu;rcases hu with rfl | hu
  .simp[mk4]
  .exact Du (D3 0 h) u hu
 split at hu
 .simp only[mem_cons] at hu;rcases hu with rfl | hu
  .simp[mk4]
  .exact Du (D3 0 h) u hu
 .simp only[mem_cons,mem_append] at hu;rcases hu with hu | rfl | hu
  .exact Du (D3 0 h) u hu
  .simp[mk4]
  .exact Du (D3 1 h) u hu
mutual
theorem G4:∀e,∀t∈exT e,t.kind≠5
 | .mk k o n x args p=>by
  rw[exT];exact An9 (Rt args)
theorem Rt:∀es,∀l∈exTs es,∀t∈l,t.kind≠5
 | []=>by intro l hl;simp[exTs] at hl
 | e :: r=>by
  intro l hl;rw[exTs] at hl;simp only[mem_cons] at hl;rcases hl with rfl | hl
  .exact G4 e
  .exact Rt r l hl
end
theorem Av0(n:Nat)(e:Ex):∀t∈wT n e,t.kind≠5:=Du (G4 e)
def lvF(q:P Ex):Nat->P Ex
 | 0=>q
 | j+1=>level (5 - j) (lvF q j)
theorem K1(q:P Ex):lvF q 5=lvl q:=rfl
theorem Ab5{q:P Ex}(hq:Ok q):∀j,j<=5->Ok (lvF q j)
 | 0,_=>hq
 | j+1,h=>level_ok (Ab5 hq j (by omega)) (by omega)
structure Fol(n:Nat)(l:List Tok):Prop where
 good:Good l
 low:∀u r,l=u :: r->(levelOf u).1<n
 at_:sees 4 [91] l=false
 call:sees 4 [40] l=false
theorem Fol.mono{n:Nat}{l:List Tok}(h:Fol m l)(a0:m<=n):Fol n l:=⟨h.good,λ u r e=>AL (h.low u r e) a0,h.at_,h.call⟩
theorem Good.cons{l:List Tok}(h:Good l):∃u r,l=u :: r:=by
 match l,h with
 | u :: r,_=>exact⟨u,r,rfl⟩
theorem G5{n:Nat}{q:P Ex}{c:Nat}{e:Ex}{l:List Tok}(h:Fol n l)(f:Nat):chain n q (f+1) c e l=.inl (e,l):=by
 obtain⟨u,r,rfl⟩:=h.good.cons;simp only[chain];rw[if_neg (by have:=h.low u r rfl;omega)]
theorem Wt{E:P Ex}{e:Ex}{l:List Tok}(h:sees 4 [91] l=false)(f:Nat):ats E (f+1) e l=.inl (e,l):=by
 simp only[ats];rw[if_neg (by rw[h];simp)]
theorem D4{n:Nat}{x:B}{l:List Tok}(hg:Good l)(hx:(levelOf (mk4 x)).1<n)(h1:x≠[91])(h2:x≠[40]):Fol n (mk4 x :: l):=by
 refine⟨Bz (a:=[mk4 x]) (by simp[mk4]) hg,λ u r e=>by simp at e;rw[<-e.1];exact hx,?_,?_⟩
 .simp[sees,mk4,h1]
 .simp[sees,mk4,h2]
theorem Ba(x:B)(l:List Tok):need x (mk4 x :: l)=.inl ((),l):=by
 simp[need,needK,sees,mk4]
def pa(k:Nat)(l:List Tok):R Ex:=bind (primary (lvl (unary k)) l) λ x l1=>ats (lvl (unary k)) (l1.length+1) x l1
theorem Ru{k:Nat}{l:List Tok}(h1:sees 4 [45] l=false)(h2:sees 4 [33] l=false):unary (k+1) l=pa k l:=by
 simp only[unary];rw[if_neg (by rw[h1];simp),if_neg (by rw[h2];simp)];rfl
structure Bk(e:Ex):Prop where
 un:∀k rest,wD 6 e<=k->Good rest->sees 4 [91] rest=false->sees 4 [40] rest=false->unary k (wT 6 e ++ rest)=.inl (e.er,rest)
 pr:∀k rest,wD 7 e<=k+1->Good rest->sees 4 [40] rest=false->pa k (wT 7 e ++ rest)=ats (lvl (unary k)) (rest.length+1) e.er rest
 lv:∀k j rest,j<=5->wD (6 - j) e<=k->Fol (6 - j) rest->lvF (unary k) j (wT (6 - j) e ++ rest)=.inl (e.er,rest)
def Ch(e:Ex):Prop:=∀k j rest,j<=4->lowE (5 - j) e=false->exD e<=k->Fol (6 - j) rest->∃c,(0<c->e.k=15/\opL e.o=5 - j)/\level (5 - j) (lvF (unary k) j) (exT e ++ rest)=chain (5 - j) (lvF (unary k) j) (rest.length+1) c e.er rest
theorem Bc6{e:Ex}(h:lowE 6 e=false):e.k≠15:=by
 intro hk;have:opL e.o<=5:=by unfold opL;(repeat' split) <;> omega
 simp only[lowE,hk] at h;simp at h;omega
theorem Ab6{e:Ex}(a0:lowE 1 e=false)(a7:lowE 7 e=false->∀k rest,exD e<=k+1->Good rest->sees 4 [40] rest=false->pa k (exT e ++ rest)=ats (lvl (unary k)) (rest.length+1) e.er rest)
  (hun:lowE 6 e=false->∀k rest,exD e<=k->Good rest->sees 4 [91] rest=false->sees 4 [40] rest=false->unary k (exT e ++ rest)=.inl (e.er,rest))
  (hlv:∀k j rest,j<=5->lowE (6 - j) e=false->exD e<=k->Fol (6 - j) rest->lvF (unary k) j (exT e ++ rest)=.inl (e.er,rest)):Bk e:=by
 have a5:∀k rest,exD e<=k->Good rest->pa k (mk4 [40] :: (exT e ++ [mk4 [41]]) ++ rest)=ats (lvl (unary k)) (rest.length+1) e.er rest:=by
  intro k rest hd hg;have h1:lvl (unary k) (exT e ++ mk4 [41] :: rest)=.inl (e.er,mk4 [41] :: rest):=by
   have:=hlv k 5 (mk4 [41] :: rest) (by decide) a0 hd (D4 hg (by decide) (by decide) (by decide));rw[K1] at this;exact this
  have h2:primary (lvl (unary k)) (mk4 [40] :: (exT e ++ [mk4 [41]]) ++ rest)=.inl (e.er,rest):=by
   have e1:mk4 [40] :: (exT e ++ [mk4 [41]]) ++ rest=mk4 [40] :: (exT e ++ mk4 [41] :: rest):=by simp
   rw[e1];simp only[primary,mk4,sees];simp;have a4:=h1;simp only[mk4] at a4;rw[a4];simp only[bind];have:=Ba [41] rest;simp only[mk4] at this;rw[this]
  unfold pa;rw[h2];rfl
 have a3:∀k rest,exD e+1<=k->Good rest->sees 4 [91] rest=false->unary k (mk4 [40] :: (exT e ++ [mk4 [41]]) ++ rest)=.inl (e.er,rest):=by
  intro k rest hd hg hs;obtain⟨k,rfl⟩:∃k',k=k'+1:=⟨k - 1,by omega⟩;rw[Ru (by simp[sees,mk4]) (by simp[sees,mk4]),a5 k rest (by omega) hg,Wt hs]
 have a6:∀k j rest,j<=5->exD e+1<=k->Fol (6 - j) rest->lvF (unary k) j (mk4 [40] :: (exT e ++ [mk4 [41]]) ++ rest)=.inl (e.er,rest):=by
  intro k j;induction j with
  | zero=>intro rest _ hd hf;exact a3 k rest hd hf.good hf.at_
  | succ j ih=>
   intro rest hj hd hf;simp only[lvF,level];rw[ih rest (by omega) hd (hf.mono (by omega))];simp only[bind];exact G5 (by rw[show 5 - j=6 - (j+1) by omega];exact hf) _
 refine⟨λ k rest hd hg h1 h2=>?_,λ k rest hd hg h1=>?_,λ k j rest hj hd hf=>?_⟩
 .rcases h6:lowE 6 e with _ | _
  .rw[Co h6];rw[Cy h6] at hd;exact hun h6 k rest hd hg h1 h2
  .simp only[wT,wD,h6,within,Lt,if_true] at hd ⊢;exact a3 k rest hd hg h1
 .rcases h7:lowE 7 e with _ | _
  .rw[Co h7];rw[Cy h7] at hd;exact a7 h7 k rest hd hg h1
  .simp only[wT,wD,h7,within,Lt,if_true] at hd ⊢;exact a5 k rest (by omega) hg
 .rcases hj':lowE (6 - j) e with _ | _
  .rw[Co hj'];rw[Cy hj'] at hd;exact hlv k j rest hj hj' hd hf
  .simp only[wT,wD,hj',within,Lt,if_true] at hd ⊢;exact a6 k j rest hj hd hf
theorem As9{e:Ex}(hk:e.k≠15)(a0:∀k rest,exD e<=k->Good rest->sees 4 [91] rest=false->sees 4 [40] rest=false->unary k (exT e ++ rest)=.inl (e.er,rest)) :
  ∀k j rest,j<=5->exD e<=k->Fol (6 - j) rest->lvF (unary k) j (exT e ++ rest)=.inl (e.er,rest):=by
 intro k j;induction j with
 | zero=>intro rest _ hd hf;exact a0 k rest hd hf.good hf.at_ hf.call
 | succ j ih=>
  intro rest hj hd hf;simp only[lvF,level];rw[ih rest (by omega) hd (hf.mono (by omega))];simp only[bind];exact G5 (by rw[show 5 - j=6 - (j+1) by omega];exact hf) _
theorem Ab7{e:Ex}(h:∀k j rest,j<=5->lowE (6 - j) e=false->exD e<=k->Fol (6 - j) rest->lvF (unary k) j (exT e ++ rest)=.inl (e.er,rest)){k:Nat}{rest:List Tok}(hj:j<=4)(hl:lowE (6 - j) e=false)(hd:exD e<=k)(hf:Fol (6 - j) rest) :
  level (5 - j) (lvF (unary k) j) (exT e ++ rest)=chain (5 - j) (lvF (unary k) j) (rest.length+1) 0 e.er rest:=by
 simp only[level];rw[h k j rest (by omega) hl hd hf];rfl
theorem Ab8{o:Nat}(h1:1<=o)(h2:o<=13):1<=lv o/\lv o<=5/\opL o<=lv o/\lv o<=opL o+1/\(lv o≠opL o->opL o=3):=by
 rcases op_cases h1 h2 with rfl | rfl | rfl | rfl | rfl | rfl | rfl | rfl | rfl | rfl | rfl | rfl | rfl <;> decide
theorem Av1{o n:Nat}{l:List Tok}(h1:1<=o)(h2:o<=13)(hn:opL o<n)(hg:Good l):Fol n (mk4 (opX o) :: l):=by
 refine D4 hg ?_ ?_ ?_
 .show (levelOf ⟨4,opX o,0,0⟩).1<n;rw[H4 h1 h2];exact hn
 .rcases op_cases h1 h2 with rfl | rfl | rfl | rfl | rfl | rfl | rfl | rfl | rfl | rfl | rfl | rfl | rfl <;> decide
 .rcases op_cases h1 h2 with rfl | rfl | rfl | rfl | rfl | rfl | rfl | rfl | rfl | rfl | rfl | rfl | rfl <;> decide
theorem Ab9{o:Nat}{a b:Ex}(h1:1<=o)(h2:o<=13)(ha:Bk a)(a8:Ch a)(hb:Bk b){k:Nat}{rest:List Tok}(hj:j<=4)(ho:opL o=5 - j)(hd:exD (.mk 15 o 0 [] [a,b] p)<=k)(hf:Fol (6 - j) rest) :
  ∃c,0<c/\level (5 - j) (lvF (unary k) j) (exT (.mk 15 o 0 [] [a,b] p) ++ rest)=chain (5 - j) (lvF (unary k) j) (rest.length+1) c (Ex.mk 15 o 0 [] [a,b] p).er rest:=by
 have hr:=Ab8 h1 h2;rw[Ws] at hd;have a5:wD (lv o) a<=k:=AP (Nat.le_max_left _ _) hd;have a6:wD (opL o+1) b<=k:=AP (Nat.le_max_right _ _) hd;have e1:exT (.mk 15 o 0 [] [a,b] p) ++ rest=wT (lv o) a ++ (mk4 (opX o) :: (wT (opL o+1) b ++ rest)):=by
  rw[exT_bin];simp
 have a9:Good (wT (opL o+1) b ++ rest):=Bz (Av0 _ _) hf.good;have a7:Fol (6 - j) (mk4 (opX o) :: (wT (opL o+1) b ++ rest)):=Av1 h1 h2 (by omega) a9;have aa:Ok (lvF (unary k) j):=Ab5 (unary_ok k) j (by omega);obtain⟨c,hc,a3⟩:∃c,¬(5 - j=3/\0<c)/\level (5 - j) (lvF (unary k) j) (wT (lv o) a ++ (mk4 (opX o) :: (wT (opL o+1) b ++ rest)))=chain (5 - j) (lvF (unary k) j) ((mk4 (opX o) :: (wT (opL o+1) b ++ rest)).length+1) c a.er (mk4 (opX o) :: (wT (opL o+1) b ++ rest)):=by
  rcases hl:lowE (lv o) a with _ | _
  .rw[Co hl];rw[Cy hl] at a5;have a4:lowE (5 - j) a=false:=by
    rcases h:lowE (5 - j) a with _ | _
    .rfl
    .rw[Fa (by omega) h] at hl;simp at hl
   obtain⟨c,hc,ad⟩:=a8 k j _ hj a4 a5 a7;refine⟨c,λ hh=>?_,ad⟩;obtain⟨k1,k2⟩:=hc hh.2;have ab:lv o=4:=by unfold lv;rw[if_pos (by omega)]
   rw[ab] at hl;simp[lowE,k1,k2,hh.1] at hl
  .have a4:lowE (6 - j) a=true:=Fa (by omega) hl;have e2:wT (lv o) a=wT (6 - j) a:=by simp only[wT,hl,a4]
   have e3:wD (lv o) a=wD (6 - j) a:=by simp only[wD,hl,a4]
   rw[e3] at a5;refine⟨0,λ hh=>by omega,?_⟩;rw[e2];simp only[level];rw[ha.lv k j _ (by omega) a5 a7];rfl
 refine⟨c+1,by omega,?_⟩;rw[e1,a3];have a0:lvF (unary k) j (wT (opL o+1) b ++ rest)=.inl (b.er,rest):=by
  rw[show opL o+1=6 - j by omega] at a6 ⊢;exact hb.lv k j rest (by omega) a6 hf
 rw[chain,if_pos (by show (levelOf ⟨4,opX o,0,0⟩).1=5 - j;rw[H4 h1 h2];exact ho),if_neg hc,a0];simp only[bind];have e4:(levelOf (mk4 (opX o))).2=o:=by show (levelOf ⟨4,opX o,0,0⟩).2=o;rw[H4 h1 h2]
 rw[e4];have e5:(Ex.mk 15 o 0 [] [a,b] p).er=.mk 15 o 0 [] [a.er,b.er] (mk4 (opX o)).place:=by simp[Ex.er,ersE,mk4]
 rw[e5];exact chain_fuel (by omega) aa _ _ _ _ _ hf.good (by simp;omega) (by omega)
theorem Ac0(n o m:Nat)(t:B)(args:List Ex)(p:Nat):lowE n (.mk 15 o m t args p)=decide (opL o<n):=by
 simp[lowE,Ex.k,Ex.o];rfl
def Ul(e:Ex):Prop:=∃t r,exT e=t :: r/\(t.kind=4->t.text=[40]\/((t.text=[45]\/t.text=[33])/\lowE 7 e=true))
theorem Ul.no{e:Ex}(h:Ul e)(l:List Tok)(x:B)(h1:x≠[40])(h2:(x≠[45]/\x≠[33])\/lowE 7 e=false):sees 4 x (exT e ++ l)=false:=by
 obtain⟨t,r,e1,ht⟩:=h;rw[e1];rcases hs:sees 4 x (t :: r ++ l) with _ | _
 .rfl
 .exfalso;simp only[cons_append,sees,Bool.and_eq_true,beq_iff_eq] at hs;rcases ht hs.1 with h3 | ⟨h3,h4⟩
  .exact h1 (by rw[<-hs.2,h3])
  .rcases h2 with h2 | h2
   .rcases h3 with h3 | h3
    .exact h2.1 (by rw[<-hs.2,h3])
    .exact h2.2 (by rw[<-hs.2,h3])
   .rw[h2] at h4;simp at h4
theorem Wu{n:Nat}{a:Ex}(h:Ul a):∃t r,wT n a=t :: r/\(t.kind=4->t.text=[40]\/((t.text=[45]\/t.text=[33])/\lowE 7 a=true/\lowE n a=false)):=by
 rcases hl:lowE n a with _ | _
 .obtain⟨t,r,e1,ht⟩:=h;rw[Co hl];exact⟨t,r,e1,λ hk=>(ht hk).imp id (λ h=>⟨h.1,h.2,rfl⟩)⟩
 .refine⟨mk4 [40],exT a ++ [mk4 [41]],by simp[wT,hl,within],λ _=>AI rfl⟩
theorem Pu(V:Nat->B->Nat->Prop):∀(N:Nat) (e:Ex),SizeOf.sizeOf e<=N->WfE V e->Ul e
 | 0,.mk k o n t args p,hN,_=>by simp at hN
 | N+1,.mk k o n t args p,hN,hw=>by
  rw[WfE] at hw;obtain⟨hf,hs⟩:=hw;simp only[Ex.mk.sizeOf_spec] at hN;rcases hf with h | h | h | h | h | h | h | h
  .obtain⟨rfl,rfl,rfl,_,_⟩:=h;exact⟨_,[],by simp[exT,exK];rfl,λ hk=>by simp at hk⟩
  .obtain⟨rfl,rfl,rfl,_,_⟩:=h;exact⟨_,[],by simp[exT,exK];rfl,λ hk=>by simp[wd] at hk⟩
  .obtain⟨rfl,rfl,rfl,_,_⟩:=h;exact⟨_,[],by simp[exT,exK];rfl,λ hk=>by simp at hk⟩
  .obtain⟨rfl,rfl,rfl,_,_,_⟩:=h;exact⟨_,[],by simp[exT,exK];rfl,λ hk=>by simp[wd] at hk⟩
  .obtain⟨rfl,rfl,rfl,_,_⟩:=h;exact⟨wd t,_,exT_call _ _ _ _ _,λ hk=>by simp[wd] at hk⟩
  .obtain⟨rfl,rfl,rfl,rfl,a0⟩:=h
   match args,a0,hs,hN with
   | [a,b],_,hs,hN=>
    simp only[WfEs] at hs;simp only[List.cons.sizeOf_spec] at hN;obtain⟨u,r,e1,hu⟩:=Wu (n:=7) (Pu V N a (by omega) hs.1);refine⟨u,r ++ mk4 [91] :: (exT b ++ [mk4 [93]]),by rw[exT_at,e1];rfl,λ hk=>?_⟩;rcases hu hk with h | h
    .exact AI h
    .rw[h.2.1] at h;simp at h
  .obtain⟨hk,rfl,rfl,rfl,a0⟩:=h
   match args,a0 with
   | [a],_=>
    rcases hk with rfl | rfl
    .exact⟨_,_,exT_neg _ _ _ _ _,λ _=>AJ ⟨AI rfl,by simp[lowE,Ex.k]⟩⟩
    .exact⟨_,_,exT_not _ _ _ _ _,λ _=>AJ ⟨AJ rfl,by simp[lowE,Ex.k]⟩⟩
  .obtain⟨rfl,h1,h2,rfl,rfl,a0⟩:=h
   match args,a0,hs,hN with
   | [a,b],_,hs,hN=>
    simp only[WfEs] at hs;simp only[List.cons.sizeOf_spec] at hN;obtain⟨u,r,e1,hu⟩:=Wu (n:=lv o) (Pu V N a (by omega) hs.1);refine⟨u,r ++ mk4 (opX o) :: wT (opL o+1) b,by rw[exT_bin,e1];rfl,λ hk=>?_⟩;have h5:=(opL_pos h1 h2).2;rcases hu hk with h | h
    .exact AI h
    .exact AJ ⟨h.1,by rw[Ac0,decide_eq_true_eq];omega⟩
theorem Nz{k:Nat}:∀(xs acc:List Ex) (f:Nat) (rest:List Tok),(∀x∈xs,Bk x/\Ul x/\lowE 1 x=false/\exD x<=k)->Good rest->(if acc=[] then (Ap (xs.map exT)).length else (xs.flatMap λ x=>mk4 [44] :: exT x).length)+rest.length+1<f ->
  items (lvl (unary k)) f acc.length acc ((if acc=[] then Ap (xs.map exT) else xs.flatMap λ x=>mk4 [44] :: exT x) ++ mk4 [41] :: rest)=.inl (acc ++ xs.map Ex.er,rest)
 | [],acc,f,rest,_,hg,hf=>by
  obtain⟨f,rfl⟩:∃f',f=f'+1:=⟨f - 1,by omega⟩;have e:(if acc=[] then Ap (([]:List Ex).map exT) else ([]:List Ex).flatMap λ x=>mk4 [44] :: exT x)=[]:=by split <;> rfl
  rw[e];simp[items,sees,mk4]
 | x :: xs,acc,f,rest,h,hg,hf=>by
  obtain⟨f,rfl⟩:∃f',f=f'+1:=⟨f - 1,by omega⟩;obtain⟨hx,hh,hl,hd⟩:=h x (by simp);have a3:∀(y:Ex) (ys:List Ex),Ap ((y :: ys).map exT)=exT y ++ ys.flatMap λ x=>mk4 [44] :: exT x:=by
   intro y ys;induction ys generalizing y with
   | nil=>simp[Ap]
   | cons z zs ih=>
    have:=ih z;simp only[map_cons] at this ⊢;rw[Ap,this];simp
  have a4:Good ((xs.flatMap λ x=>mk4 [44] :: exT x) ++ mk4 [41] :: rest):=by
   refine Bz (λ t ht=>?_) (Bz (a:=[mk4 [41]]) (by simp[mk4]) hg);simp only[mem_flatMap,mem_cons] at ht;obtain⟨y,_,ht⟩:=ht;rcases ht with rfl | ht
   .simp[mk4]
   .exact G4 y t ht
  have ab:Fol 1 ((xs.flatMap λ x=>mk4 [44] :: exT x) ++ mk4 [41] :: rest):=by
   match xs,a4 with
   | [],a4=>exact D4 hg (by decide) (by decide) (by decide)
   | y :: ys,a4=>
    simp only[flatMap_cons,cons_append] at a4 ⊢;exact D4 (a4.tail (by simp[mk4])) (by decide) (by decide) (by decide)
  have a8:lvl (unary k) (exT x ++ ((xs.flatMap λ x=>mk4 [44] :: exT x) ++ mk4 [41] :: rest))=.inl (x.er,(xs.flatMap λ x=>mk4 [44] :: exT x) ++ mk4 [41] :: rest):=by
   have:=hx.lv k 5 _ (by decide) (by rw[show 6 - 5=1 from rfl,Cy hl];exact hd) ab;rw[show 6 - 5=1 from rfl,Co hl,K1] at this;exact this
  have a0:=λ (f:Nat) (hf:(xs.flatMap λ x=>mk4 [44] :: exT x).length+rest.length+1<f)=>Nz xs (acc ++ [x.er]) f rest (λ y hy=>h y (by simp[hy])) hg (by rw[if_neg (by simp)];exact hf)
  have a9:(acc ++ [x.er]=[])=False:=by simp
  simp only[a9,if_false,length_append,length_cons,length_nil] at a0;have a5:acc ++ [x.er] ++ xs.map Ex.er=acc ++ (x :: xs).map Ex.er:=by simp
  by_cases ha:acc=[]
  .subst ha;simp only[if_true] at hf ⊢;rw[a3,append_assoc];rw[a3] at hf;have a7:sees 4 [41] (exT x ++ ((xs.flatMap λ x=>mk4 [44] :: exT x) ++ mk4 [41] :: rest))=false:=hh.no _ _ (by decide) (AI ⟨by decide,by decide⟩);simp only[items,length_nil,sep,if_true];rw[if_neg (by rw[a7];simp)];simp only[bind];rw[a8];simp only;have aa:1<=(exT x).length:=by obtain⟨u,r,e,_⟩:=hh;rw[e];simp
   have:=a0 f (by simp only[length_append] at hf;omega);rw[a5] at this;simpa using this
  .rw[if_neg ha] at hf ⊢;simp only[flatMap_cons,cons_append,append_assoc];have a6:acc.length≠0:=λ e=>ha (length_eq_zero_iff.1 e)
   have a7:sees 4 [41] (mk4 [44] :: (exT x ++ ((xs.flatMap λ x=>mk4 [44] :: exT x) ++ mk4 [41] :: rest)))=false:=by simp[sees,mk4]
   simp only[items,sep];rw[if_neg (by rw[a7];simp),if_neg a6,Ba];simp only[bind];rw[a8];simp only;have:=a0 f (by simp only[flatMap_cons,length_append,length_cons] at hf;omega);rw[a5] at this;exact this
theorem G6{e:Ex}(h7:lowE 7 e=false)(hd:1<=exD e)(hh:Ul e)(a3:∀k rest,exD e<=k+1->Good rest->sees 4 [40] rest=false->pa k (exT e ++ rest)=ats (lvl (unary k)) (rest.length+1) e.er rest):Bk e/\Ch e:=by
 have a0:∀n,n<=7->lowE n e=false:=λ n hn=>by
  rcases h:lowE n e with _ | _
  .rfl
  .rw[Fa hn h] at h7;simp at h7
 have hk:=Bc6 (a0 6 (by decide));have a5:∀k rest,exD e<=k->Good rest->sees 4 [91] rest=false->sees 4 [40] rest=false->unary k (exT e ++ rest)=.inl (e.er,rest):=by
  intro k rest h1 hg h2 h3;obtain⟨k,rfl⟩:∃k',k=k'+1:=⟨k - 1,by omega⟩;rw[Ru (hh.no _ _ (by decide) (Or.inr h7)) (hh.no _ _ (by decide) (Or.inr h7)),a3 k rest h1 hg h3,Wt h2]
 have a4:=As9 hk a5;refine⟨Ab6 (a0 1 (by decide)) (λ _=>a3) (λ _=>a5) (λ k j rest hj _=>a4 k j rest hj),λ k j rest hj _ hd hf=>⟨0,λ h=>by omega,Ab7 (λ k j rest hj _=>a4 k j rest hj) hj (a0 _ (by omega)) hd hf⟩⟩
theorem Rv{k:Nat}{l rest:List Tok}{e:Ex}(h:primary (lvl (unary k)) l=.inl (e,rest)):pa k l=ats (lvl (unary k)) (rest.length+1) e rest:=by
 unfold pa;rw[h];rfl
theorem Wv:∀{l:List Nat} {k:Nat},Dk l<=k->∀x∈l,x<=k
 | [],_,_,x,hx=>by simp at hx
 | a :: r,k,h,x,hx=>by
  simp only[Dk] at h;simp only[mem_cons] at hx;rcases hx with rfl | hx
  .omega
  .exact Wv (l:=r) (by omega) x hx
theorem size_mem:∀{l:List Ex} {x:Ex},x∈l->SizeOf.sizeOf x<SizeOf.sizeOf l
 | a :: r,x,h=>by
  simp only[mem_cons] at h;simp only[List.cons.sizeOf_spec];rcases h with rfl | h
  .omega
  .have:=size_mem h;omega
theorem Ef(V:Nat->B->Nat->Prop):∀(N:Nat) (e:Ex),SizeOf.sizeOf e<=N->WfE V e->Bk e/\Ch e
 | 0,.mk k o n t args p,hN,_=>by simp at hN
 | N+1,.mk k o n t args p,hN,hw0=>by
  have hh:=Pu V (N+1) _ hN hw0;have hw:=hw0;rw[WfE] at hw;obtain⟨hf,hs⟩:=hw;have a3:=Kb hw0;simp only[Ex.mk.sizeOf_spec] at hN;rcases hf with h | h | h | h | h | h | h | h
  .obtain⟨rfl,rfl,rfl,a0,_⟩:=h;obtain rfl:=length_eq_zero_iff.1 a0;refine G6 (by simp[lowE,Ex.k]) (by simp[exD,dK]) hh (λ k rest _ hg hc=>Rv ?_);simp[exT,exK,primary,Ex.er,ersE]
  .obtain⟨rfl,rfl,rfl,a0,hn⟩:=h;obtain rfl:=length_eq_zero_iff.1 a0;refine G6 (by simp[lowE,Ex.k]) (by simp[exD,dK]) hh (λ k rest _ hg hc=>Rv ?_);rcases (show n=0\/n=1 by omega) with rfl | rfl
   .simp[exT,exK,primary,Ex.er,ersE,wd,sees]
   .simp[exT,exK,primary,Ex.er,ersE,wd,sees]
  .obtain⟨rfl,rfl,rfl,a0,_⟩:=h;obtain rfl:=length_eq_zero_iff.1 a0;refine G6 (by simp[lowE,Ex.k]) (by simp[exD,dK]) hh (λ k rest _ hg hc=>Rv ?_);simp[exT,exK,primary,Ex.er,ersE]
  .obtain⟨rfl,rfl,rfl,a0,hr,_⟩:=h;obtain rfl:=length_eq_zero_iff.1 a0;have h1:t≠[116,114,117,101]:=λ e=>by rw[e] at hr;revert hr;decide
   have h2:t≠[102,97,108,115,101]:=λ e=>by rw[e] at hr;revert hr;decide
   refine G6 (by simp[lowE,Ex.k]) (by simp[exD,dK]) hh (λ k rest _ hg hc=>Rv ?_);have e1:exT (.mk 6 0 0 t [] p) ++ rest=wd t :: rest:=by simp[exT,exK]
   rw[e1];simp only[primary];rw[if_neg (by simp[wd]),if_neg (by simp[wd]),if_neg (by simp[wd,sees,h1]),if_neg (by simp[wd,sees,h2]),if_neg (by simp[wd,sees])];have hn:name (wd t :: rest)=.inl (wd t,rest):=by simp[name,wd,hr]
   rw[hn];simp only[bind];rw[if_neg (by rw[hc];simp)];simp[Ex.er,ersE,wd]
  .obtain⟨rfl,rfl,rfl,hr,_⟩:=h;have h1:t≠[116,114,117,101]:=λ e=>by rw[e] at hr;revert hr;decide
   have h2:t≠[102,97,108,115,101]:=λ e=>by rw[e] at hr;revert hr;decide
   refine G6 (by simp[lowE,Ex.k]) (by rw[Lu];omega) hh (λ k rest hd hg hc=>Rv ?_);rw[Lu] at hd;have hx:∀x∈args,Bk x/\Ul x/\lowE 1 x=false/\exD x<=k:=λ x hx=>by
    have a6:=WfEs_all.1 hs x hx;have af:=size_mem hx;exact⟨(Ef V N x (by omega) a6).1,Pu V N x (by omega) a6,Kb a6,Wv (by omega) _ (mem_map_of_mem hx)⟩
   have ha:=Nz args [] ((mk4 [40] :: (Ap (args.map exT) ++ mk4 [41] :: rest)).length+1) rest hx hg (by simp;omega);simp only[if_true,length_nil,nil_append] at ha;have e1:exT (.mk 7 0 0 t args p) ++ rest=wd t :: mk4 [40] :: (Ap (args.map exT) ++ mk4 [41] :: rest):=by rw[exT_call];simp
   rw[e1];simp only[primary];rw[if_neg (by simp[wd]),if_neg (by simp[wd]),if_neg (by simp[wd,sees,h1]),if_neg (by simp[wd,sees,h2]),if_neg (by simp[wd,sees])];have hn:name (wd t :: mk4 [40] :: (Ap (args.map exT) ++ mk4 [41] :: rest))=.inl (wd t,mk4 [40] :: (Ap (args.map exT) ++ mk4 [41] :: rest)):=by simp[name,wd,hr]
   rw[hn];simp only[bind];rw[if_pos (by simp[sees,mk4])];simp only[tail_cons];rw[ha];simp[Ex.er,ersE_map,wd]
  .obtain⟨rfl,rfl,rfl,rfl,a0⟩:=h
   match args,a0,hs,hN,hh,hw0 with
   | [a,b],_,hs,hN,hh,hw0=>
    simp only[WfEs] at hs;simp only[List.cons.sizeOf_spec] at hN;have ha:=(Ef V N a (by omega) hs.1).1;have hb:=(Ef V N b (by omega) hs.2.1).1;have ab:=Kb hs.2.1;refine G6 (by simp[lowE,Ex.k]) (by rw[Ui];omega) hh (λ k rest hd hg hc=>?_);rw[Ui] at hd;have ae:Good (exT b ++ mk4 [93] :: rest):=Bz (G4 b) (Bz (a:=[mk4 [93]]) (by simp[mk4]) hg);have e1:exT (.mk 12 0 0 [] [a,b] p) ++ rest=wT 7 a ++ (mk4 [91] :: (exT b ++ mk4 [93] :: rest)):=by rw[exT_at];simp
    rw[e1,ha.pr k (mk4 [91] :: (exT b ++ mk4 [93] :: rest)) (by omega) (Bz (a:=[mk4 [91]]) (by simp[mk4]) ae) (by simp[sees,mk4])];have ad:lvl (unary k) (exT b ++ mk4 [93] :: rest)=.inl (b.er,mk4 [93] :: rest):=by
     have:=hb.lv k 5 (mk4 [93] :: rest) (by decide) (by rw[show 6 - 5=1 from rfl,Cy ab];omega) (D4 hg (by decide) (by decide) (by decide));rw[show 6 - 5=1 from rfl,Co ab,K1] at this;exact this
    rw[ats,if_pos (by simp[sees,mk4])];simp only[tail_cons];rw[ad];simp only[bind,Ba];have e5:(Ex.mk 12 0 0 [] [a,b] p).er=.mk 12 0 0 [] [a.er,b.er] (place (mk4 [91] :: (exT b ++ mk4 [93] :: rest))):=by simp[Ex.er,ersE,mk4,place]
    rw[e5];exact ats_fuel (Pd (unary_ok k)) _ _ _ _ hg (by simp;omega) (by omega)
  .obtain⟨hk,rfl,rfl,rfl,a0⟩:=h
   match args,a0,hs,hN,hh,hw0,a3 with
   | [a],_,hs,hN,hh,hw0,a3=>
    simp only[WfEs] at hs;simp only[List.cons.sizeOf_spec] at hN;have ha:=(Ef V N a (by omega) hs.1).1;have a7:(Ex.mk k 0 0 [] [a] p).k≠15:=by rcases hk with rfl | rfl <;> simp[Ex.k]
    have h7:lowE 7 (Ex.mk k 0 0 [] [a] p)=true:=by rcases hk with rfl | rfl <;> simp[lowE,Ex.k]
    have aa:∀k2 rest,exD (Ex.mk k 0 0 [] [a] p)<=k2->Good rest->sees 4 [91] rest=false->sees 4 [40] rest=false->unary k2 (exT (Ex.mk k 0 0 [] [a] p) ++ rest)=.inl ((Ex.mk k 0 0 [] [a] p).er,rest):=by
     intro k2 rest hd hg h1 h2;rw[exD_un _ _ _ _ _ _ hk] at hd;obtain⟨k2,rfl⟩:∃k',k2=k'+1:=⟨k2 - 1,by omega⟩;have hr:=ha.un k2 rest (by omega) hg h1 h2;rcases hk with rfl | rfl
     .rw[exT_neg,cons_append,unary,if_pos (by simp[sees,mk4])];simp only[tail_cons];rw[hr];simp[bind,Ex.er,ersE,place,mk4]
     .rw[exT_not,cons_append,unary,if_neg (by simp[sees,mk4]),if_pos (by simp[sees,mk4])];simp only[tail_cons];rw[hr];simp[bind,Ex.er,ersE,place,mk4]
    have a5:=As9 a7 aa;have h6:∀n,n<=6->lowE n (Ex.mk k 0 0 [] [a] p)=false:=λ n hn=>by
     rcases hk with rfl | rfl <;> simp[lowE,Ex.k] <;> omega
    exact⟨Ab6 a3 (λ h=>by rw[h7] at h;simp at h) (λ _=>aa) (λ k j rest hj _=>a5 k j rest hj),λ k j rest hj _ hd hf=>⟨0,λ h=>by omega,Ab7 (λ k j rest hj _=>a5 k j rest hj) hj (h6 _ (by omega)) hd hf⟩⟩
  .obtain⟨rfl,h1,h2,rfl,rfl,a0⟩:=h
   match args,a0,hs,hN,hh,hw0,a3 with
   | [a,b],_,hs,hN,hh,hw0,a3=>
    simp only[WfEs] at hs;simp only[List.cons.sizeOf_spec] at hN;obtain⟨ha,a8⟩:=Ef V N a (by omega) hs.1;have hb:=(Ef V N b (by omega) hs.2.1).1;have h5:=opL_pos h1 h2;have a4:∀n,n<=6->(lowE n (Ex.mk 15 o 0 [] [a,b] p)=false↔n<=opL o):=λ n hn=>by
     rw[Ac0,decide_eq_false_iff_not];omega
    have a5:∀k j rest,j<=5->lowE (6 - j) (Ex.mk 15 o 0 [] [a,b] p)=false->exD (Ex.mk 15 o 0 [] [a,b] p)<=k->Fol (6 - j) rest->lvF (unary k) j (exT (Ex.mk 15 o 0 [] [a,b] p) ++ rest)=.inl ((Ex.mk 15 o 0 [] [a,b] p).er,rest):=by
     intro k j;induction j with
     | zero=>intro rest _ hl;rw[a4 _ (by omega)] at hl;omega
     | succ j ih=>
      intro rest hj hl hd hf;rw[a4 _ (by omega)] at hl;have a9:Fol (5 - j) rest:=by rw[show 5 - j=6 - (j+1) by omega];exact hf
      by_cases ho:opL o=5 - j
      .obtain⟨c,_,hc⟩:=Ab9 (p:=p) h1 h2 ha a8 hb (by omega) ho hd (hf.mono (by omega));rw[lvF,hc,G5 a9]
      .simp only[lvF,level];rw[ih rest (by omega) (by rw[a4 _ (by omega)];omega) hd (hf.mono (by omega))];simp only[bind];exact G5 a9 _
    refine⟨Ab6 a3 (λ h=>by rw[Ac0,decide_eq_false_iff_not] at h;omega) (λ h=>by rw[a4 6 (by omega)] at h;omega) a5,λ k j rest hj hl hd hf=>?_⟩;rw[a4 _ (by omega)] at hl;by_cases ho:opL o=5 - j
    .obtain⟨c,_,hc⟩:=Ab9 (p:=p) h1 h2 ha a8 hb hj ho hd hf;exact⟨c,λ _=>⟨rfl,ho⟩,hc⟩
    .exact⟨0,λ h=>by omega,Ab7 a5 hj (by rw[a4 _ (by omega)];omega) hd hf⟩
theorem Cr{V:Nat->B->Nat->Prop}{e:Ex}{k:Nat}{rest:List Tok}(hw:WfE V e)(hd:exD e<=k)(hf:Fol 1 rest):Jl k (exT e ++ rest)=.inl (e.er,rest):=by
 have hl:=Kb hw;have:=(Ef V _ e (AD _) hw).1.lv k 5 rest (by decide) (by rw[show 6 - 5=1 from rfl,Cy hl];exact hd) hf;rw[show 6 - 5=1 from rfl,Co hl,K1] at this;exact this
end Px
namespace Px
open Lx (Tok B)
inductive Ty:Nat->B->List Tok->Prop
 | int {k:Nat}:Ty (k+1) [105,110,116] [wd [105,110,116]]
 | bool {k:Nat}:Ty (k+1) [98,111,111,108] [wd [98,111,111,108]]
 | text {k:Nat}:Ty (k+1) [116,101,120,116] [wd [116,101,120,116]]
 | list {k:Nat} {y:B} {c:List Tok}:Ty k y c->Ty (k+1) ([91] ++ y ++ [93]) (mk4 [91] :: (c ++ [mk4 [93]]))
 | map {k:Nat} {a y:B} {c:List Tok}:(a=[105,110,116]\/a=[116,101,120,116])->Ty k y c->Ty (k+1) ([123] ++ a ++ [58] ++ y ++ [125]) (mk4 [123] :: wd a :: mk4 [58] :: (c ++ [mk4 [125]]))
theorem Ty.no5{k:Nat}{y:B}{c:List Tok}(h:Ty k y c):∀t∈c,t.kind≠5:=by
 induction h with
 | int=>intro t ht;simp at ht;rw[ht];simp[wd]
 | bool=>intro t ht;simp at ht;rw[ht];simp[wd]
 | text=>intro t ht;simp at ht;rw[ht];simp[wd]
 | list _ ih=>
  intro t ht;simp only[mem_cons,mem_append,not_mem_nil,or_false] at ht;rcases ht with rfl | ht | rfl
  .simp[mk4]
  .exact ih t ht
  .simp[mk4]
 | map _ _ ih=>
  intro t ht;simp only[mem_cons,mem_append,not_mem_nil,or_false] at ht;rcases ht with rfl | rfl | rfl | ht | rfl
  .simp[mk4]
  .simp[wd]
  .simp[mk4]
  .exact ih t ht
  .simp[mk4]
theorem Ty.back{k:Nat}{y:B}{c:List Tok}(h:Ty k y c):∀rest,typ k (c ++ rest)=.inl (y,rest):=by
 induction h with
 | int=>intro rest;simp[typ,sees,wd]
 | bool=>intro rest;simp[typ,sees,wd]
 | text=>intro rest;simp[typ,sees,wd]
 | @list k y c _ ih=>
  intro rest;have e:mk4 [91] :: (c ++ [mk4 [93]]) ++ rest=mk4 [91] :: (c ++ mk4 [93] :: rest):=by simp
  rw[e,typ,if_neg (by simp[sees,mk4]),if_neg (by simp[sees,mk4]),if_neg (by simp[sees,mk4]),if_pos (by simp[sees,mk4])];simp only[tail_cons];rw[ih];simp only[bind,Ba]
 | @map k a y c ha _ ih=>
  intro rest;have e:mk4 [123] :: wd a :: mk4 [58] :: (c ++ [mk4 [125]]) ++ rest=mk4 [123] :: wd a :: mk4 [58] :: (c ++ mk4 [125] :: rest):=by simp
  have hk:key (wd a :: mk4 [58] :: (c ++ mk4 [125] :: rest))=.inl (a,mk4 [58] :: (c ++ mk4 [125] :: rest)):=by
   rcases ha with rfl | rfl <;> simp[key,sees,wd]
  rw[e,typ,if_neg (by simp[sees,mk4]),if_neg (by simp[sees,mk4]),if_neg (by simp[sees,mk4]),if_neg (by simp[sees,mk4]),if_pos (by simp[sees,mk4])];simp only[tail_cons];rw[hk];simp only[bind,Ba];rw[ih];simp only[Ba]
theorem Ac1{l l':List Tok}{a:B}(h:key l=.inl (a,l')):(a=[105,110,116]\/a=[116,101,120,116])/\∃t,l=t :: l':=by
 unfold key at h;split at h
 .rename_i hs;obtain⟨t,r,rfl,_,_⟩:=sees_head hs;simp at h;exact⟨AI h.1.symm,t,by rw[h.2]⟩
 split at h
 .rename_i hs;obtain⟨t,r,rfl,_,_⟩:=sees_head hs;simp at h;exact⟨AJ h.1.symm,t,by rw[h.2]⟩
 .simp[fail] at h
theorem Pv:∀(k:Nat) (l:List Tok) (y:B) (l':List Tok),typ k l=.inl (y,l')->∃c,Ty k y c/\c.length+l'.length=l.length/\l' <:+ l
 | 0,l,y,l',h=>by simp[typ,fail] at h
 | k+1,l,y,l',h=>by
  simp only[typ] at h;split at h
  .rename_i hs;obtain⟨t,r,rfl,_,_⟩:=sees_head hs;simp at h;obtain⟨rfl,rfl⟩:=h;exact⟨_,.int,by simp;omega,AE _ _⟩
  split at h
  .rename_i hs;obtain⟨t,r,rfl,_,_⟩:=sees_head hs;simp at h;obtain⟨rfl,rfl⟩:=h;exact⟨_,.bool,by simp;omega,AE _ _⟩
  split at h
  .rename_i hs;obtain⟨t,r,rfl,_,_⟩:=sees_head hs;simp at h;obtain⟨rfl,rfl⟩:=h;exact⟨_,.text,by simp;omega,AE _ _⟩
  split at h
  .rename_i hs;obtain⟨t,r,rfl,_,_⟩:=sees_head hs;obtain⟨y1,l1,h1,h2⟩:=bind_some h;obtain⟨u,l2,h3,h4⟩:=bind_some h2;clear h h2;obtain⟨t2,rfl⟩:=need_some h3;simp at h4;obtain⟨rfl,rfl⟩:=h4;simp only[tail_cons] at h1;obtain⟨c,hc,hl,hs⟩:=Pv k r y1 _ h1;exact⟨_,.list hc,by simp at hl ⊢;omega,((AE _ _).trans hs).trans (AE _ _)⟩
  split at h
  .rename_i hs;obtain⟨t,r,rfl,_,_⟩:=sees_head hs;obtain⟨a,l1,h1,h2⟩:=bind_some h;obtain⟨u,l2,h3,h4⟩:=bind_some h2;obtain⟨y1,l3,h5,h6⟩:=bind_some h4;obtain⟨u2,l4,h7,h8⟩:=bind_some h6;clear h h2 h4 h6;simp only[tail_cons] at h1;obtain⟨ha,t1,rfl⟩:=Ac1 h1;clear h1;obtain⟨t2,rfl⟩:=need_some h3;clear h3;obtain⟨t3,rfl⟩:=need_some h7;simp only[Sum.inl.injEq,Prod.mk.injEq] at h8;obtain⟨rfl,rfl⟩:=h8;obtain⟨c,hc,hl,hs⟩:=Pv k l2 y1 _ h5;exact⟨_,.map ha hc,by simp at hl ⊢;omega,((((AE _ _).trans hs).trans (AE _ _)).trans (AE _ _)).trans (AE _ _)⟩
  .simp[fail] at h
open Classical in
noncomputable def tyT (y:B):List Tok:=if h:∃c,Ty 4 y c then Classical.choose h else []
theorem tyT_spec{y:B}{c:List Tok}(h:Ty 4 y c):Ty 4 y (tyT y):=by
 have hh:∃c,Ty 4 y c:=⟨c,h⟩;unfold tyT;rw[dif_pos hh];exact Classical.choose_spec hh
theorem Ty.uniq{k:Nat}{y:B}{c:List Tok}(h:Ty k y c):∀{k':Nat} {y':B} {d:List Tok},Ty k' y' d->y'=y->c=d:=by
 induction h with
 | int=>
  intro k' y' d h2 e;cases h2 with
  | int=>rfl
  | bool=>simp at e
  | text=>simp at e
  | list=>simp at e
  | map=>simp at e
 | bool=>
  intro k' y' d h2 e;cases h2 with
  | int=>simp at e
  | bool=>rfl
  | text=>simp at e
  | list=>simp at e
  | map=>simp at e
 | text=>
  intro k' y' d h2 e;cases h2 with
  | int=>simp at e
  | bool=>simp at e
  | text=>rfl
  | list=>simp at e
  | map=>simp at e
 | list _ ih=>
  intro k' y' d h2 e;cases h2 with
  | int=>simp at e
  | bool=>simp at e
  | text=>simp at e
  | list h3=>
   simp at e;rw[ih h3 e]
  | map=>simp at e
 | @map k a y c ha _ ih=>
  intro k' y' d h2 e;cases h2 with
  | int=>simp at e
  | bool=>simp at e
  | text=>simp at e
  | list=>simp at e
  | map hb h3=>
   rcases ha with rfl | rfl <;> rcases hb with rfl | rfl
   .simp at e;rw[ih h3 e]
   .simp at e
   .simp at e
   .simp at e;rw[ih h3 e]
theorem Ac2{y:B}{c:List Tok}(h:Ty 4 y c):tyT y=c:=(tyT_spec h).uniq h rfl
noncomputable def slT (s:Sl):List Tok:=wd s.name :: mk4 [58] :: tyT s.type
def Ky(V:Nat->B->Nat->Prop)(t:B):Prop:=reserved t=false/\V 1 t 0
def Fq(V:Nat->B->Nat->Prop)(s:Sl):Prop:=Ky V s.name/\∃c,Ty 4 s.type c
theorem Fr{V:Nat->B->Nat->Prop}{t:B}(h:Ky V t)(l:List Tok):name (wd t :: l)=.inl (wd t,l):=by simp[name,wd,h.1]
theorem N0{V:Nat->B->Nat->Prop}{s:Sl}(h:Fq V s)(rest:List Tok):slot (slT s ++ rest)=.inl (s.er,rest):=by
 obtain⟨hn,c,hc⟩:=h;have e:slT s ++ rest=wd s.name :: mk4 [58] :: (tyT s.type ++ rest):=by simp[slT]
 rw[e,slot,Fr hn];simp only[bind,Ba];rw[(tyT_spec hc).back];simp[Sl.er,wd]
theorem Ww{V:Nat->B->Nat->Prop}{l l':List Tok}{s:Sl}(hV:AllV V l)(h:slot l=.inl (s,l')):Fq V s/\(slT s).length+l'.length<=l.length/\l' <:+ l:=by
 obtain⟨t,l1,h1,h2⟩:=bind_some h;obtain⟨u,l2,h3,h4⟩:=bind_some h2;obtain⟨y,l3,h5,h6⟩:=bind_some h4;clear h h2 h4;obtain⟨rfl,hk,hr⟩:=Dt h1;clear h1;obtain⟨t2,rfl⟩:=need_some h3;simp at h6;obtain⟨rfl,rfl⟩:=h6;obtain⟨c,hc,hl,hs⟩:=Pv 4 l2 y _ h5;refine⟨⟨⟨hr,(hV t (by simp)).1 hk⟩,c,hc⟩,?_,(hs.trans (AE _ _)).trans (AE _ _)⟩;simp only[slT,length_cons,Ac2 hc];omega
theorem Ao0{V:Nat->B->Nat->Prop}{s:Sl}(h:Fq V s):∀t∈slT s,t.kind≠5:=by
 obtain⟨_,c,hc⟩:=h;intro t ht;simp only[slT,mem_cons] at ht;rcases ht with rfl | rfl | ht
 .simp[wd]
 .simp[mk4]
 .exact (tyT_spec hc).no5 t ht
/- Statements. -/
def blk(l:List Tok):List Tok:=mk4 [123] :: (l ++ [mk4 [125]])
def stK(k:Nat)(n:B)(es:List (List Tok))(b c:List Tok)(none:Bool):List Tok:=
 if k=1 then wd [108,101,116] :: wd n :: mk4 [61] :: (es.getD 0 [] ++ [mk4 [59]])
 else if k=2 then (if es.length=1 then wd [115,101,116] :: wd n :: mk4 [61] :: (es.getD 0 [] ++ [mk4 [59]]) else wd [115,101,116] :: wd n :: mk4 [91] :: (es.getD 0 [] ++ mk4 [93] :: mk4 [61] :: (es.getD 1 [] ++ [mk4 [59]])))
 else if k=3 then wd [100,101,108] :: wd n :: mk4 [91] :: (es.getD 0 [] ++ [mk4 [93],mk4 [59]])
 else if k=4 then wd [105,102] :: (es.getD 0 [] ++ (blk b ++ if none then [] else wd [101,108,115,101] :: blk c))
 else if k=5 then wd [102,111,114] :: wd n :: wd [116,111] :: (es.getD 0 [] ++ blk b)
 else wd [114,101,116] :: (es.getD 0 [] ++ [mk4 [59]])
mutual
def stT:St->List Tok
 | .mk k n es b c _=>stK k n (es.map exT) (stsT b) (stsT c) c.isEmpty
def stsT:List St->List Tok
 | []=>[]
 | s :: r=>stT s ++ stsT r
end
mutual
def stD:St->Nat
 | .mk k n es b c _=>max (Dk (es.map exD)) (max (if k=4\/k=5 then 1+F4 b else 0) (if k=4/\c.isEmpty=false then 1+F4 c else 0))
def F4:List St->Nat
 | []=>0
 | s :: r=>max (stD s) (F4 r)
end
def FormS(V:Nat->B->Nat->Prop)(k:Nat)(n:B)(len:Nat)(b c:List St):Prop:=
 (k=1/\Ky V n/\len=1/\b=[]/\c=[])\/(k=2/\Ky V n/\(len=1\/len=2)/\b=[]/\c=[])\/(k=3/\Ky V n/\len=1/\b=[]/\c=[])\/(k=4/\n=[]/\len=1)\/(k=5/\Ky V n/\len=1/\c=[])\/(k=6/\n=[]/\len=1/\b=[]/\c=[])
mutual
def WfS(V:Nat->B->Nat->Prop):St->Prop
 | .mk k n es b c _=>FormS V k n es.length b c/\(∀e∈es,WfE V e)/\Cs V b/\Cs V c
def Cs(V:Nat->B->Nat->Prop):List St->Prop
 | []=>True
 | s :: r=>WfS V s/\Cs V r
end
theorem Rw:∀(a b:List St),stsT (a ++ b)=stsT a ++ stsT b
 | [],b=>by simp[stsT]
 | s :: r,b=>by simp[stsT,Rw r b]
theorem Rx:∀(a b:List St),F4 (a ++ b)=max (F4 a) (F4 b)
 | [],b=>by simp[F4]
 | s :: r,b=>by simp only[cons_append,F4,Rx r b];omega
theorem Ry{V:Nat->B->Nat->Prop}:∀{a b:List St},Cs V a->Cs V b->Cs V (a ++ b)
 | [],b,_,h=>h
 | s :: r,b,h1,h2=>by
  simp only[Cs] at h1;simp only[cons_append,Cs];exact⟨h1.1,Ry h1.2 h2⟩
def SmS(V:Nat->B->Nat->Prop)(k:Nat)(q:P St):Prop:=∀l s l',AllV V l->q l=.inl (s,l')->WfS V s/\stD s<=k/\(stT s).length+l'.length<=l.length/\l' <:+ l
def SmB(V:Nat->B->Nat->Prop)(k:Nat)(q:P (List St)):Prop:=∀l b l',AllV V l->q l=.inl (b,l')->Cs V b/\1+F4 b<=k/\(blk (stsT b)).length+l'.length<=l.length/\l' <:+ l
theorem Rz{V:Nat->B->Nat->Prop}{k:Nat}{q:P St}(hq:SmS V k q):∀(f:Nat) (acc:List St) (l:List Tok) (b:List St) (l':List Tok),AllV V l->Cs V acc->F4 acc<=k->stmts q f acc l=.inl (b,l')->Cs V b/\F4 b<=k/\(stsT b).length+l'.length+1<=(stsT acc).length+l.length/\l' <:+ l
 | 0,_,_,_,_,_,_,_,h=>by simp[stmts] at h
 | f+1,acc,l,b,l',hV,hw,hd,h=>by
  simp only[stmts] at h;split at h
  .rename_i hs;obtain⟨t,r,rfl,_,_⟩:=sees_head hs;simp at h;obtain⟨rfl,rfl⟩:=h;exact⟨hw,hd,by simp;omega,AE _ _⟩
  .obtain⟨s,l1,h1,h2⟩:=bind_some h;obtain⟨w1,w2,w3,w4⟩:=hq l s l1 hV h1;have a0:=Rz hq f (acc ++ [s]) l1 b l' (hV.suf w4) (Ry hw (by simp only[Cs];exact⟨w1,trivial⟩)) (by rw[Rx];simp only[F4];omega) h2;refine⟨a0.1,a0.2.1,?_,a0.2.2.2.trans w4⟩;have h3:=a0.2.2.1;rw[Rw] at h3;simp only[stsT,append_nil,length_append] at h3;omega
theorem st_words(k:Nat)(n:B)(es:List Ex)(b c:List St)(p:Nat):stT (.mk k n es b c p)=stK k n (es.map exT) (stsT b) (stsT c) c.isEmpty:=by rw[stT]
theorem Ao1{V:Nat->B->Nat->Prop}{k:Nat}{q:P (List St)}(hq:SmB V k q):SmS V k (stmt (Jl k) q):=by
 intro l s l' hV h;unfold stmt at h;split at h
 .rename_i hs;obtain⟨t0,r,rfl,_,_⟩:=sees_head hs;obtain⟨t,l1,h1,h2⟩:=bind_some h;obtain⟨u,l2,h3,h4⟩:=bind_some h2;obtain⟨x,l3,h5,h6⟩:=bind_some h4;obtain⟨u2,l4,h7,h8⟩:=bind_some h6;clear h h2 h4 h6;simp only[tail_cons] at h1;obtain⟨rfl,hk,hr⟩:=Dt h1;clear h1;obtain⟨t2,rfl⟩:=need_some h3;clear h3;obtain⟨t3,rfl⟩:=need_some h7;simp at h8;obtain⟨rfl,rfl⟩:=h8;have a0:AllV V l2:=hV.suf (((AE _ _).trans (AE _ _)).trans (AE _ _));obtain⟨w1,w2,w3,w4⟩:=Ey V k a0 h5;refine⟨?_,?_,?_,((((AE _ _).trans w4).trans (AE _ _)).trans (AE _ _)).trans (AE _ _)⟩
  .simp only[WfS,Cs,FormS];exact⟨AI ⟨trivial,⟨hr,(hV t (by simp)).1 hk⟩,by simp⟩,by simpa using w1,trivial,trivial⟩
  .simp[stD,Dk];omega
  .rw[st_words];simp[stK] at w3 ⊢;omega
 split at h
 .rename_i _ hs;obtain⟨t0,r,rfl,_,_⟩:=sees_head hs;obtain⟨t,l1,h1,h2⟩:=bind_some h;obtain⟨xs,l2,h3,h4⟩:=bind_some h2;obtain⟨u,l3,h5,h6⟩:=bind_some h4;obtain⟨x,l4,h7,h8⟩:=bind_some h6;obtain⟨u2,l5,h9,a3⟩:=bind_some h8;clear h h2 h4 h6 h8;simp only[tail_cons] at h1;obtain⟨rfl,hk,hr⟩:=Dt h1;clear h1;obtain⟨t2,rfl⟩:=need_some h5;clear h5;obtain⟨t3,rfl⟩:=need_some h9;simp at a3;obtain⟨rfl,rfl⟩:=a3;have a5:Ky V t.text:=⟨hr,(hV t (by simp)).1 hk⟩;unfold opt at h3;split at h3
  .rename_i hs2;obtain⟨t4,r4,rfl,_,_⟩:=sees_head hs2;obtain⟨y,l6,g1,g2⟩:=bind_some h3;obtain⟨u3,l7,g3,g4⟩:=bind_some g2;clear h3 g2;obtain⟨t5,rfl⟩:=need_some g3;simp at g4;obtain⟨rfl,rfl⟩:=g4;simp only[tail_cons] at g1;have a0:AllV V r4:=hV.suf (((AE _ _).trans (AE _ _)).trans (AE _ _));obtain⟨v1,v2,v3,v4⟩:=Ey V k a0 g1;have a4:AllV V l3:=a0.suf (((AE _ _).trans (AE _ _)).trans v4);obtain⟨w1,w2,w3,w4⟩:=Ey V k a4 h7;refine⟨?_,?_,?_,(((AE _ _).trans w4).trans (((AE _ _).trans (AE _ _)).trans v4)).trans (((AE _ _).trans (AE _ _)).trans (AE _ _))⟩
   .simp only[WfS,Cs,FormS];exact⟨AJ (AI ⟨trivial,a5,by simp⟩),by simpa using ⟨v1,w1⟩,trivial,trivial⟩
   .simp[stD,Dk];omega
   .rw[st_words];simp[stK] at v3 w3 ⊢;omega
  .simp at h3;obtain⟨rfl,rfl⟩:=h3;have a4:AllV V l3:=hV.suf (((AE _ _).trans (AE _ _)).trans (AE _ _));obtain⟨w1,w2,w3,w4⟩:=Ey V k a4 h7;refine⟨?_,?_,?_,((AE _ _).trans w4).trans (((AE _ _).trans (AE _ _)).trans (AE _ _))⟩
   .simp only[WfS,Cs,FormS];exact⟨AJ (AI ⟨trivial,a5,by simp⟩),by simpa using w1,trivial,trivial⟩
   .simp[stD,Dk];omega
   .rw[st_words];simp[stK] at w3 ⊢;omega
 split at h
 .rename_i _ _ hs;obtain⟨t0,r,rfl,_,_⟩:=sees_head hs;obtain⟨t,l1,h1,h2⟩:=bind_some h;obtain⟨u,l2,h3,h4⟩:=bind_some h2;obtain⟨x,l3,h5,h6⟩:=bind_some h4;obtain⟨u2,l4,h7,h8⟩:=bind_some h6;obtain⟨u3,l5,h9,a3⟩:=bind_some h8;clear h h2 h4 h6 h8;simp only[tail_cons] at h1;obtain⟨rfl,hk,hr⟩:=Dt h1;clear h1;obtain⟨t2,rfl⟩:=need_some h3;clear h3;obtain⟨t3,rfl⟩:=need_some h7;clear h7;obtain⟨t4,rfl⟩:=need_some h9;simp at a3;obtain⟨rfl,rfl⟩:=a3;have a0:AllV V l2:=hV.suf (((AE _ _).trans (AE _ _)).trans (AE _ _));obtain⟨w1,w2,w3,w4⟩:=Ey V k a0 h5;refine⟨?_,?_,?_,(((AE _ _).trans (AE _ _)).trans w4).trans (((AE _ _).trans (AE _ _)).trans (AE _ _))⟩
  .simp only[WfS,Cs,FormS];exact⟨AJ (AJ (AI ⟨trivial,⟨hr,(hV t (by simp)).1 hk⟩,by simp⟩)),by simpa using w1,trivial,trivial⟩
  .simp[stD,Dk];omega
  .rw[st_words];simp[stK] at w3 ⊢;omega
 split at h
 .rename_i _ _ _ hs;obtain⟨t0,r,rfl,_,_⟩:=sees_head hs;obtain⟨x,l1,h1,h2⟩:=bind_some h;obtain⟨b,l2,h3,h4⟩:=bind_some h2;obtain⟨c,l3,h5,h6⟩:=bind_some h4;clear h h2 h4;simp at h6;obtain⟨rfl,rfl⟩:=h6;simp only[tail_cons] at h1;have a0:AllV V r:=hV.suf (AE _ _);obtain⟨w1,w2,w3,w4⟩:=Ey V k a0 h1;obtain⟨v1,v2,v3,v4⟩:=hq l1 b l2 (a0.suf w4) h3;unfold other at h5;split at h5
  .rename_i hs2;obtain⟨t4,r4,rfl,_,_⟩:=sees_head hs2;simp only[tail_cons] at h5;obtain⟨z1,z2,z3,z4⟩:=hq r4 c _ (a0.suf (((AE _ _).trans v4).trans w4)) h5;refine⟨?_,?_,?_,(((z4.trans (AE _ _)).trans v4).trans w4).trans (AE _ _)⟩
   .simp only[WfS,FormS];exact⟨AJ (AJ (AJ (AI ⟨trivial,trivial,by simp⟩))),by simpa using w1,v1,z1⟩
   .simp only[stD,map_cons,map_nil,Dk];simp;split <;> omega
   .rw[st_words];rcases c with _ | ⟨s,c⟩
    .simp[stK,blk] at w3 v3 z3 ⊢;omega
    .simp[stK,blk] at w3 v3 z3 ⊢;omega
  .simp at h5;obtain⟨rfl,rfl⟩:=h5;refine⟨?_,?_,?_,(v4.trans w4).trans (AE _ _)⟩
   .simp only[WfS,Cs,FormS];exact⟨AJ (AJ (AJ (AI ⟨trivial,trivial,by simp⟩))),by simpa using w1,v1,trivial⟩
   .simp only[stD,map_cons,map_nil,Dk];simp;omega
   .rw[st_words];simp[stK,blk] at w3 v3 ⊢;omega
 split at h
 .rename_i _ _ _ _ hs;obtain⟨t0,r,rfl,_,_⟩:=sees_head hs;obtain⟨t,l1,h1,h2⟩:=bind_some h;obtain⟨u,l2,h3,h4⟩:=bind_some h2;obtain⟨x,l3,h5,h6⟩:=bind_some h4;obtain⟨b,l4,h7,h8⟩:=bind_some h6;clear h h2 h4 h6;simp only[tail_cons] at h1;obtain⟨rfl,hk,hr⟩:=Dt h1;clear h1;obtain⟨t2,rfl,_,_⟩:=H5 h3;simp at h8;obtain⟨rfl,rfl⟩:=h8;have a0:AllV V l2:=hV.suf (((AE _ _).trans (AE _ _)).trans (AE _ _));obtain⟨w1,w2,w3,w4⟩:=Ey V k a0 h5;obtain⟨v1,v2,v3,v4⟩:=hq l3 b _ (a0.suf w4) h7;refine⟨?_,?_,?_,(v4.trans w4).trans (((AE _ _).trans (AE _ _)).trans (AE _ _))⟩
  .simp only[WfS,Cs,FormS];exact⟨AJ (AJ (AJ (AJ (AI ⟨trivial,⟨hr,(hV t (by simp)).1 hk⟩,by simp⟩)))),by simpa using w1,v1,trivial⟩
  .simp only[stD,map_cons,map_nil,Dk];simp;omega
  .rw[st_words];simp[stK,blk] at w3 v3 ⊢;omega
 split at h
 .rename_i _ _ _ _ _ hs;obtain⟨t0,r,rfl,_,_⟩:=sees_head hs;obtain⟨x,l1,h1,h2⟩:=bind_some h;obtain⟨u,l2,h3,h4⟩:=bind_some h2;clear h h2;obtain⟨t2,rfl⟩:=need_some h3;simp at h4;obtain⟨rfl,rfl⟩:=h4;simp only[tail_cons] at h1;obtain⟨w1,w2,w3,w4⟩:=Ey V k (hV.suf (AE _ _)) h1;refine⟨?_,?_,?_,((AE _ _).trans w4).trans (AE _ _)⟩
  .simp only[WfS,Cs,FormS];exact⟨AJ (AJ (AJ (AJ (AJ ⟨trivial,trivial,by simp⟩)))),by simpa using w1,trivial,trivial⟩
  .simp[stD,Dk];omega
  .rw[st_words];simp[stK] at w3 ⊢;omega
 .simp[fail] at h
theorem R0(V:Nat->B->Nat->Prop):∀k,SmB V k (block k)
 | 0=>by intro l b l' hV h;simp[block,fail] at h
 | k+1=>by
  intro l b l' hV h;simp only[block] at h;obtain⟨u,l1,h1,h2⟩:=bind_some h;clear h;obtain⟨t,rfl⟩:=need_some h1;obtain⟨w1,w2,w3,w4⟩:=Rz (Ao1 (R0 V k)) _ [] l1 b l' (hV.suf (AE _ _)) (by simp[Cs]) (by simp[F4]) h2;exact⟨w1,by omega,by simp[blk,stsT] at w3 ⊢;omega,w4.trans (AE _ _)⟩
end Px
namespace Px
open Lx (Tok B)
theorem K2{l:List Tok}(h:∀t∈l,t.kind≠5):∀t∈blk l,t.kind≠5:=by
 intro t ht;simp only[blk,mem_cons,mem_append,not_mem_nil,or_false] at ht;rcases ht with rfl | ht | rfl
 .simp[mk4]
 .exact h t ht
 .simp[mk4]
theorem Ao2{k:Nat}{n:B}{es:List (List Tok)}{b c:List Tok}{e:Bool}(he:∀l∈es,∀t∈l,t.kind≠5)(hb:∀t∈b,t.kind≠5)(hc:∀t∈c,t.kind≠5):∀t∈stK k n es b c e,t.kind≠5:=by
 have h0:=D3 0 he;have h1:=D3 1 he;have w:∀x,(wd x).kind≠5:=λ x=>by simp[wd]
 have m:∀x,(mk4 x).kind≠5:=λ x=>by simp[mk4]
 have a0:=K2 hb;have a3:=K2 hc;intro t ht;unfold stK at ht
 repeat' split at ht
 all_goals simp only[mem_cons,mem_append,not_mem_nil,or_false] at ht
 .rcases ht with rfl | rfl | rfl | ht | rfl
  .exact w _
  .exact w _
  .exact m _
  .exact h0 t ht
  .exact m _
 .rcases ht with rfl | rfl | rfl | ht | rfl
  .exact w _
  .exact w _
  .exact m _
  .exact h0 t ht
  .exact m _
 .rcases ht with rfl | rfl | rfl | ht | rfl | rfl | ht | rfl
  .exact w _
  .exact w _
  .exact m _
  .exact h0 t ht
  .exact m _
  .exact m _
  .exact h1 t ht
  .exact m _
 .rcases ht with rfl | rfl | rfl | ht | rfl | rfl
  .exact w _
  .exact w _
  .exact m _
  .exact h0 t ht
  .exact m _
  .exact m _
 .rcases ht with rfl | ht | ht
  .exact w _
  .exact h0 t ht
  .exact a0 t ht
 .rcases ht with rfl | ht | ht | rfl | ht
  .exact w _
  .exact h0 t ht
  .exact a0 t ht
  .exact w _
  .exact a3 t ht
 .rcases ht with rfl | rfl | rfl | ht | ht
  .exact w _
  .exact w _
  .exact w _
  .exact h0 t ht
  .exact a0 t ht
 .rcases ht with rfl | ht | rfl
  .exact w _
  .exact h0 t ht
  .exact m _
mutual
theorem Ao3:∀s,∀t∈stT s,t.kind≠5
 | .mk k n es b c p=>by
  rw[stT];exact Ao2 (λ l hl=>by simp at hl;obtain⟨e,_,rfl⟩:=hl;exact G4 e) (Dl b) (Dl c)
theorem Dl:∀l,∀t∈stsT l,t.kind≠5
 | []=>by intro t ht;simp[stsT] at ht
 | s :: r=>by
  intro t ht;rw[stsT] at ht;simp only[mem_append] at ht;rcases ht with ht | ht
  .exact Ao3 s t ht
  .exact Dl r t ht
end
theorem R1(s:St):∃x r,stT s=wd x :: r/\x≠[101,108,115,101]:=by
 match s with
 | .mk k n es b c p=>
  rw[stT];unfold stK
  repeat' split
  all_goals exact⟨_,_,rfl,by decide⟩
theorem Ac3(b:List St)(rest:List Tok):sees 1 [101,108,115,101] (stsT b ++ mk4 [125] :: rest)=false:=by
 match b with
 | []=>simp[stsT,sees,mk4]
 | s :: r=>
  obtain⟨x,q,e,hx⟩:=R1 s;rw[stsT,e];simp[sees,wd,hx]
def Ac4(s:St):Prop:=∀k rest,stD s<=k->Good rest->sees 1 [101,108,115,101] rest=false->stmt (Jl k) (block k) (stT s ++ rest)=.inl (s.er,rest)
theorem R2{k:Nat}:∀(b acc:List St) (f:Nat) (rest:List Tok),(∀s∈b,Ac4 s/\stD s<=k)->Good rest->(stsT b).length+rest.length+1<f->stmts (stmt (Jl k) (block k)) f acc (stsT b ++ mk4 [125] :: rest)=.inl (acc ++ b.map St.er,rest)
 | [],acc,f,rest,_,hg,hf=>by
  obtain⟨f,rfl⟩:∃f',f=f'+1:=⟨f - 1,by omega⟩;simp[stmts,stsT,sees,mk4]
 | s :: b,acc,f,rest,h,hg,hf=>by
  obtain⟨f,rfl⟩:∃f',f=f'+1:=⟨f - 1,by omega⟩;obtain⟨hs,hd⟩:=h s (by simp);have a4:Good (stsT b ++ mk4 [125] :: rest):=Bz (Dl b) (Bz (a:=[mk4 [125]]) (by simp[mk4]) hg);have a0:=hs k _ hd a4 (Ac3 b rest);obtain⟨x,r,e,hx⟩:=R1 s;have a3:1<=(stT s).length:=by rw[e];simp
  rw[stsT,append_assoc];simp only[stmts];rw[if_neg (by rw[e];simp[sees,wd]),a0];simp only[bind];rw[stsT,length_append] at hf;have:=R2 b (acc ++ [s.er]) f rest (λ s2 h2=>h s2 (by simp[h2])) hg (by omega);rw[this];simp
theorem R3:∀{b:List St} {s:St},s∈b->stD s<=F4 b
 | a :: r,s,h=>by
  simp only[mem_cons] at h;simp only[F4];rcases h with rfl | h
  .omega
  .have:=R3 h;omega
theorem Iz{V:Nat->B->Nat->Prop}:∀{b:List St} {s:St},Cs V b->s∈b->WfS V s
 | a :: r,s,hw,h=>by
  simp only[Cs] at hw;simp only[mem_cons] at h;rcases h with rfl | h
  .exact hw.1
  .exact Iz hw.2 h
theorem Gg{b:List St}(hb:∀s∈b,Ac4 s){k:Nat}{rest:List Tok}(hd:1+F4 b<=k)(hg:Good rest):block k (blk (stsT b) ++ rest)=.inl (ersS b,rest):=by
 obtain⟨k,rfl⟩:∃k',k=k'+1:=⟨k - 1,by omega⟩;have e:blk (stsT b) ++ rest=mk4 [123] :: (stsT b ++ mk4 [125] :: rest):=by simp[blk]
 rw[e,block,Ba];simp only[bind];have:=R2 (k:=k) b [] ((stsT b ++ mk4 [125] :: rest).length+1) rest (λ s hs=>⟨hb s hs,by have:=R3 hs;omega⟩) hg (by simp);rw[this,Iu];simp
theorem H7:∀{l:List St} {x:St},x∈l->SizeOf.sizeOf x<SizeOf.sizeOf l
 | a :: r,x,h=>by
  simp only[mem_cons] at h;simp only[List.cons.sizeOf_spec];rcases h with rfl | h
  .omega
  .have:=H7 h;omega
theorem I0{rest:List Tok}(hg:Good rest):Fol 1 (mk4 [59] :: rest):=D4 hg (by decide) (by decide) (by decide)
theorem R4{rest:List Tok}(hg:Good rest):Fol 1 (mk4 [93] :: rest):=D4 hg (by decide) (by decide) (by decide)
theorem Pw{x:B}{l:List Tok}(hg:Good l):Good (mk4 x :: l):=Bz (a:=[mk4 x]) (by simp[mk4]) hg
theorem Py{l rest:List Tok}(hl:∀t∈l,t.kind≠5)(hg:Good rest):Fol 1 (blk l ++ rest):=by
 have e:blk l ++ rest=mk4 [123] :: (l ++ mk4 [125] :: rest):=by simp[blk]
 rw[e];exact D4 (Bz hl (Pw hg)) (by decide) (by decide) (by decide)
theorem Pz(V:Nat->B->Nat->Prop):∀(N:Nat) (s:St),SizeOf.sizeOf s<=N->WfS V s->Ac4 s
 | 0,.mk k n es b c p,hN,_=>by simp at hN
 | N+1,.mk kk n es b c p,hN,hw=>by
  rw[WfS] at hw;obtain⟨hf,he,hb,hc⟩:=hw;simp only[St.mk.sizeOf_spec] at hN;have hB:∀s∈b,Ac4 s:=λ s hs=>Pz V N s (by have:=H7 hs;omega) (Iz hb hs)
  have hC:∀s∈c,Ac4 s:=λ s hs=>Pz V N s (by have:=H7 hs;omega) (Iz hc hs)
  intro k rest hd hg hel;rw[st_words];rw[stD] at hd;have a0:Dk (es.map exD)<=k:=AP (Nat.le_max_left _ _) hd;have a4:=AP (Nat.le_max_right _ _) hd;rcases hf with h | h | h | h | h | h
  .obtain⟨rfl,hn,a3,rfl,rfl⟩:=h
   match es,a3,he,a0 with
   | [x],_,he,a0=>
    have hx:=he x (by simp);simp[Dk] at a0;have e1:stK 1 n ([x].map exT) (stsT []) (stsT []) ([]:List St).isEmpty ++ rest=wd [108,101,116] :: wd n :: mk4 [61] :: (exT x ++ mk4 [59] :: rest):=by simp[stK]
    rw[e1,stmt,if_pos (by simp[sees,wd])];simp only[tail_cons];rw[Fr hn];simp only[bind,Ba];rw[Cr hx a0 (I0 hg)];simp[Ba,St.er,ersE,ersS,place,wd]
  .obtain⟨rfl,hn,a3,rfl,rfl⟩:=h
   match es,a3,he,a0 with
   | [x],_,he,a0=>
    have hx:=he x (by simp);simp[Dk] at a0;have e1:stK 2 n ([x].map exT) (stsT []) (stsT []) ([]:List St).isEmpty ++ rest=wd [115,101,116] :: wd n :: mk4 [61] :: (exT x ++ mk4 [59] :: rest):=by simp[stK]
    rw[e1,stmt,if_neg (by simp[sees,wd]),if_pos (by simp[sees,wd])];simp only[tail_cons];rw[Fr hn];simp only[bind];rw[opt,if_neg (by simp[sees,mk4])];simp only[Ba];rw[Cr hx a0 (I0 hg)];simp[Ba,St.er,ersE,ersS,place,wd]
   | [y,x],_,he,a0=>
    have hy:=he y (by simp);have hx:=he x (by simp);simp only[map_cons,map_nil,Dk] at a0;have e1:stK 2 n ([y,x].map exT) (stsT []) (stsT []) ([]:List St).isEmpty ++ rest=wd [115,101,116] :: wd n :: mk4 [91] :: (exT y ++ mk4 [93] :: mk4 [61] :: (exT x ++ mk4 [59] :: rest)):=by simp[stK]
    rw[e1,stmt,if_neg (by simp[sees,wd]),if_pos (by simp[sees,wd])];simp only[tail_cons];rw[Fr hn];simp only[bind];rw[opt,if_pos (by simp[sees,mk4])];simp only[tail_cons];rw[Cr hy (by omega) (R4 (Pw (Bz (G4 x) (Pw hg))))];simp only[bind,Ba];rw[Cr hx (by omega) (I0 hg)];simp[Ba,St.er,ersE,ersS,place,wd]
  .obtain⟨rfl,hn,a3,rfl,rfl⟩:=h
   match es,a3,he,a0 with
   | [x],_,he,a0=>
    have hx:=he x (by simp);simp[Dk] at a0;have e1:stK 3 n ([x].map exT) (stsT []) (stsT []) ([]:List St).isEmpty ++ rest=wd [100,101,108] :: wd n :: mk4 [91] :: (exT x ++ mk4 [93] :: mk4 [59] :: rest):=by simp[stK]
    rw[e1,stmt,if_neg (by simp[sees,wd]),if_neg (by simp[sees,wd]),if_pos (by simp[sees,wd])];simp only[tail_cons];rw[Fr hn];simp only[bind,Ba];rw[Cr hx a0 (R4 (Pw hg))];simp[Ba,St.er,ersE,ersS,place,wd]
  .obtain⟨rfl,rfl,a3⟩:=h
   match es,a3,he,a0 with
   | [x],_,he,a0=>
    have hx:=he x (by simp);simp[Dk] at a0;simp only[true_or,if_true,true_and] at a4;rcases c with _ | ⟨c1,c2⟩
    .simp at a4;have e1:stK 4 [] ([x].map exT) (stsT b) (stsT []) ([]:List St).isEmpty ++ rest=wd [105,102] :: (exT x ++ (blk (stsT b) ++ rest)):=by simp[stK]
     rw[e1,stmt,if_neg (by simp[sees,wd]),if_neg (by simp[sees,wd]),if_neg (by simp[sees,wd]),if_pos (by simp[sees,wd])];simp only[tail_cons];rw[Cr hx a0 (Py (Dl b) hg)];simp only[bind];rw[Gg hB a4 hg];simp only[bind,other];rw[if_neg (by rw[hel];simp)];simp[St.er,ersE,ersS,place,wd]
    .simp at a4;have e1:stK 4 [] ([x].map exT) (stsT b) (stsT (c1 :: c2)) (c1 :: c2).isEmpty ++ rest=wd [105,102] :: (exT x ++ (blk (stsT b) ++ (wd [101,108,115,101] :: (blk (stsT (c1 :: c2)) ++ rest)))):=by simp[stK]
     have a5:Good (wd [101,108,115,101] :: (blk (stsT (c1 :: c2)) ++ rest)):=Bz (a:=[wd [101,108,115,101]]) (by simp[wd]) (Bz (K2 (Dl _)) hg);rw[e1,stmt,if_neg (by simp[sees,wd]),if_neg (by simp[sees,wd]),if_neg (by simp[sees,wd]),if_pos (by simp[sees,wd])];simp only[tail_cons];rw[Cr hx a0 (Py (Dl b) a5)];simp only[bind];rw[Gg hB (by omega) a5];simp only[bind,other];rw[if_pos (by simp[sees,wd])];simp only[tail_cons];rw[Gg hC (by omega) hg];simp[St.er,ersE,ersS,place,wd]
  .obtain⟨rfl,hn,a3,rfl⟩:=h
   match es,a3,he,a0 with
   | [x],_,he,a0=>
    have hx:=he x (by simp);simp[Dk] at a0;simp at a4;have e1:stK 5 n ([x].map exT) (stsT b) (stsT []) ([]:List St).isEmpty ++ rest=wd [102,111,114] :: wd n :: wd [116,111] :: (exT x ++ (blk (stsT b) ++ rest)):=by simp[stK]
    rw[e1,stmt,if_neg (by simp[sees,wd]),if_neg (by simp[sees,wd]),if_neg (by simp[sees,wd]),if_neg (by simp[sees,wd]),if_pos (by simp[sees,wd])];simp only[tail_cons];rw[Fr hn];simp only[bind];rw[needK,if_pos (by simp[sees,wd])];simp only[tail_cons];rw[Cr hx a0 (Py (Dl b) hg)];simp only[bind];rw[Gg hB a4 hg];simp[St.er,ersE,ersS,place,wd]
  .obtain⟨rfl,rfl,a3,rfl,rfl⟩:=h
   match es,a3,he,a0 with
   | [x],_,he,a0=>
    have hx:=he x (by simp);simp[Dk] at a0;have e1:stK 6 [] ([x].map exT) (stsT []) (stsT []) ([]:List St).isEmpty ++ rest=wd [114,101,116] :: (exT x ++ mk4 [59] :: rest):=by simp[stK]
    rw[e1,stmt,if_neg (by simp[sees,wd]),if_neg (by simp[sees,wd]),if_neg (by simp[sees,wd]),if_neg (by simp[sees,wd]),if_neg (by simp[sees,wd]),if_pos (by simp[sees,wd])];simp only[tail_cons];rw[Cr hx a0 (I0 hg)];simp[bind,Ba,St.er,ersE,ersS,place,wd]
theorem Um{V:Nat->B->Nat->Prop}{b:List St}(hw:Cs V b){k:Nat}{rest:List Tok}(hd:1+F4 b<=k)(hg:Good rest):block k (blk (stsT b) ++ rest)=.inl (ersS b,rest):=
 Gg (λ s hs=>Pz V _ s (AD _) (Iz hw hs)) hd hg
end Px
namespace Px
open Lx (Tok B)
theorem Lw{V:Nat->B->Nat->Prop}:∀(xs acc:List Sl) (f:Nat) (rest:List Tok),(∀x∈xs,Fq V x)->(if acc=[] then (Ap (xs.map slT)).length else (xs.flatMap λ x=>mk4 [44] :: slT x).length)+rest.length+1<f ->
  items slot f acc.length acc ((if acc=[] then Ap (xs.map slT) else xs.flatMap λ x=>mk4 [44] :: slT x) ++ mk4 [41] :: rest)=.inl (acc ++ xs.map Sl.er,rest)
 | [],acc,f,rest,_,hf=>by
  obtain⟨f,rfl⟩:∃f',f=f'+1:=⟨f - 1,by omega⟩;have e:(if acc=[] then Ap (([]:List Sl).map slT) else ([]:List Sl).flatMap λ x=>mk4 [44] :: slT x)=[]:=by split <;> rfl
  rw[e];simp[items,sees,mk4]
 | x :: xs,acc,f,rest,h,hf=>by
  obtain⟨f,rfl⟩:∃f',f=f'+1:=⟨f - 1,by omega⟩;have hx:=h x (by simp);have a4:∀(y:Sl) (ys:List Sl),Ap ((y :: ys).map slT)=slT y ++ ys.flatMap λ x=>mk4 [44] :: slT x:=by
   intro y ys;induction ys generalizing y with
   | nil=>simp[Ap]
   | cons z zs ih=>
    have:=ih z;simp only[map_cons] at this ⊢;rw[Ap,this];simp
  have a7:=N0 hx ((xs.flatMap λ x=>mk4 [44] :: slT x) ++ mk4 [41] :: rest);have a0:=λ (f:Nat) (hf:(xs.flatMap λ x=>mk4 [44] :: slT x).length+rest.length+1<f)=>Lw (V:=V) xs (acc ++ [x.er]) f rest (λ y hy=>h y (by simp[hy])) (by rw[if_neg (by simp)];exact hf)
  have a8:(acc ++ [x.er]=[])=False:=by simp
  simp only[a8,if_false,length_append,length_cons,length_nil] at a0;have a3:acc ++ [x.er] ++ xs.map Sl.er=acc ++ (x :: xs).map Sl.er:=by simp
  have a9:1<=(slT x).length:=by simp[slT]
  by_cases ha:acc=[]
  .subst ha;simp only[if_true] at hf ⊢;rw[a4,append_assoc];rw[a4] at hf;have a5:sees 4 [41] (slT x ++ ((xs.flatMap λ x=>mk4 [44] :: slT x) ++ mk4 [41] :: rest))=false:=by simp[slT,sees,wd]
   simp only[items,length_nil,sep,if_true];rw[if_neg (by rw[a5];simp)];simp only[bind];rw[a7];simp only;have:=a0 f (by simp only[length_append] at hf;omega);rw[a3] at this;simpa using this
  .rw[if_neg ha] at hf ⊢;simp only[flatMap_cons,cons_append,append_assoc];have a6:acc.length≠0:=λ e=>ha (length_eq_zero_iff.1 e)
   have a5:sees 4 [41] (mk4 [44] :: (slT x ++ ((xs.flatMap λ x=>mk4 [44] :: slT x) ++ mk4 [41] :: rest)))=false:=by simp[sees,mk4]
   simp only[items,sep];rw[if_neg (by rw[a5];simp),if_neg a6,Ba];simp only[bind];rw[a7];simp only;have:=a0 f (by simp only[flatMap_cons,length_append,length_cons] at hf;omega);rw[a3] at this;exact this
theorem R5{V:Nat->B->Nat->Prop}:∀(f n:Nat) (acc:List Sl) (l:List Tok) (xs:List Sl) (l':List Tok),AllV V l->(∀x∈acc,Fq V x)->n=acc.length->items slot f n acc l=.inl (xs,l') ->
  (∀x∈xs,Fq V x)/\(Ap (xs.map slT)).length+l'.length+1<=(Ap (acc.map slT)).length+l.length/\l' <:+ l
 | 0,_,_,_,_,_,_,_,_,h=>by simp[items] at h
 | f+1,n,acc,l,xs,l',hV,hw,hn,h=>by
  simp only[items] at h;split at h
  .rename_i hs;obtain⟨t,r,rfl,_,_⟩:=sees_head hs;simp at h;obtain⟨rfl,rfl⟩:=h;exact⟨hw,by simp;omega,AE _ _⟩
  .obtain⟨u,l1,hu,h1⟩:=bind_some h;obtain⟨y,l2,hy,h2⟩:=bind_some h1;have a3:l1 <:+ l:=by
    rcases sep_some hu with⟨_,rfl⟩ | ⟨_,t,rfl⟩
    .exact suffix_refl _
    .exact AE _ _
   obtain⟨w1,w3,w4⟩:=Ww (hV.suf a3) hy;have a0:=R5 f (n+1) (acc ++ [y]) l2 xs l' (hV.suf (w4.trans a3)) (λ x hx=>by simp at hx;rcases hx with hx | rfl;exact hw x hx;exact w1) (by simp[hn]) h2;refine⟨a0.1,?_,a0.2.2.trans (w4.trans a3)⟩;have h3:=a0.2.1;rw[map_append,map_cons,map_nil,commas_snoc] at h3;rcases sep_some hu with⟨h0,rfl⟩ | ⟨h0,t,rfl⟩
   .have:acc=[]:=length_eq_zero_iff.1 (by omega);subst this;simp only[map_nil,if_true] at h3 ⊢;omega
   .have:¬acc.map slT=[]:=by
     intro e;rw[map_eq_nil_iff] at e;subst e;simp at hn;omega
    rw[if_neg this] at h3;simp only[length_cons] at h3 w3 ⊢;omega
noncomputable def fnT (f:Fn):List Tok:=wd f.name :: mk4 [40] :: (Ap (f.params.map slT) ++ mk4 [41] :: mk4 [58] :: (tyT f.result ++ blk (stsT f.body)))
def WfF(V:Nat->B->Nat->Prop)(f:Fn):Prop:=Ky V f.name/\(∀s∈f.params,Fq V s)/\(∃c,Ty 4 f.result c)/\Cs V f.body/\1+F4 f.body<=24
theorem Na{V:Nat->B->Nat->Prop}{ps:List Sl}(h:∀s∈ps,Fq V s):∀t∈Ap (ps.map slT),t.kind≠5:=H6 (λ l hl=>by simp at hl;obtain⟨s,hs,rfl⟩:=hl;exact Ao0 (h s hs))
theorem Ao4{V:Nat->B->Nat->Prop}{f:Fn}(h:WfF V f){rest:List Tok}(hg:Good rest):function f.on (fnT f ++ rest)=.inl (f.er,rest):=by
 obtain⟨hn,hp,⟨c,hc⟩,hb,hd⟩:=h;have e:fnT f ++ rest=wd f.name :: mk4 [40] :: (Ap (f.params.map slT) ++ mk4 [41] :: mk4 [58] :: (tyT f.result ++ (blk (stsT f.body) ++ rest))):=by simp[fnT]
 have a0:=Lw (V:=V) f.params [] ((Ap (f.params.map slT) ++ mk4 [41] :: mk4 [58] :: (tyT f.result ++ (blk (stsT f.body) ++ rest))).length+1) (mk4 [58] :: (tyT f.result ++ (blk (stsT f.body) ++ rest))) hp (by simp);simp only[if_true,length_nil,nil_append] at a0;rw[e,function,Fr hn];simp only[bind,Ba];rw[a0];simp only[Ba];rw[(tyT_spec hc).back];simp only;rw[Um hb hd hg];simp[Fn.er,wd]
theorem Kc{V:Nat->B->Nat->Prop}{on:Bool}{l l':List Tok}{f:Fn}(hV:AllV V l)(h:function on l=.inl (f,l')):WfF V f/\f.on=on/\(fnT f).length+l'.length<=l.length/\l' <:+ l:=by
 obtain⟨t,l1,h1,h2⟩:=bind_some h;obtain⟨u,l2,h3,h4⟩:=bind_some h2;obtain⟨ps,l3,h5,h6⟩:=bind_some h4;obtain⟨u2,l4,h7,h8⟩:=bind_some h6;obtain⟨y,l5,h9,a0⟩:=bind_some h8;obtain⟨b,l6,a6,a3⟩:=bind_some a0;clear h h2 h4 h6 h8 a0;obtain⟨rfl,hk,hr⟩:=Dt h1;clear h1;obtain⟨t2,rfl⟩:=need_some h3;clear h3;obtain⟨t3,rfl⟩:=need_some h7;simp at a3;obtain⟨rfl,rfl⟩:=a3;have a4:AllV V l2:=hV.suf ((AE _ _).trans (AE _ _));obtain⟨w1,w2,w3⟩:=R5 (V:=V) _ 0 [] l2 ps (t3 :: l4) a4 (by simp) rfl h5;obtain⟨c,hc,hl,hs⟩:=Pv 4 l4 y l5 h9;have a5:AllV V l5:=a4.suf ((hs.trans (AE _ _)).trans w3);obtain⟨v1,v2,v3,v4⟩:=R0 V 24 l5 b _ a5 a6;refine⟨⟨⟨hr,(hV t (by simp)).1 hk⟩,w1,⟨c,hc⟩,v1,v2⟩,rfl,?_,(((v4.trans hs).trans (AE _ _)).trans w3).trans ((AE _ _).trans (AE _ _))⟩;simp only[fnT,Ac2 hc];simp[Ap] at w2 ⊢;omega
noncomputable def ssT:List Sl->List Tok
 | []=>[]
 | s :: r=>wd [115,116,97,116,101] :: (slT s ++ mk4 [59] :: ssT r)
noncomputable def fsT:List Fn->List Tok
 | []=>[]
 | f :: r=>wd (if f.on then [111,110] else [102,110]) :: (fnT f ++ fsT r)
def Hi:Tok:=⟨5,[],0,0⟩
noncomputable def prT (p:Pr):List Tok:=wd [118,101,114,115,105,111,110] :: ⟨2,dg p.version,p.version,0⟩ :: mk4 [59] :: (ssT p.states ++ (fsT p.fns ++ [Hi]))
def WfP(V:Nat->B->Nat->Prop)(p:Pr):Prop:=(∃x,V 2 x p.version)/\(∀s∈p.states,Fq V s)/\(∀f∈p.fns,WfF V f)
theorem Wx:∀(a:List Sl) (s:Sl),(ssT (a ++ [s])).length=(ssT a).length+(slT s).length+2
 | [],s=>by simp[ssT]
 | x :: r,s=>by
  have:=Wx r s;simp only[cons_append,ssT,length_cons,length_append,this];omega
theorem P0:∀(a:List Fn) (f:Fn),(fsT (a ++ [f])).length=(fsT a).length+(fnT f).length+1
 | [],f=>by simp[fsT]
 | x :: r,f=>by
  have:=P0 r f;simp only[cons_append,fsT,length_cons,length_append,this];omega
theorem I1{V:Nat->B->Nat->Prop}:∀(f:Nat) (p:Pr) (l:List Tok) (p':Pr) (l':List Tok),AllV V l->(∀s∈p.states,Fq V s)->(∀f∈p.fns,WfF V f)->parts f p l=.inl (p',l') ->
  p'.version=p.version/\(∀s∈p'.states,Fq V s)/\(∀f∈p'.fns,WfF V f)/\(ssT p'.states).length+(fsT p'.fns).length+l'.length<=(ssT p.states).length+(fsT p.fns).length+l.length/\1<=l'.length
 | 0,_,_,_,_,_,_,_,h=>by simp[parts] at h
 | f+1,p,[],_,_,_,_,_,h=>by simp[parts] at h
 | f+1,p,t :: r,p',l',hV,h1,h2,h=>by
  simp only[parts] at h;split at h
  .simp at h;obtain⟨rfl,rfl⟩:=h;exact⟨rfl,h1,h2,AD _,by simp⟩
  split at h
  .obtain⟨s,l1,g1,g2⟩:=bind_some h;obtain⟨u,l2,g3,g4⟩:=bind_some g2;clear h g2;obtain⟨t2,rfl⟩:=need_some g3;obtain⟨w1,w2,w3⟩:=Ww (hV.suf (AE _ _)) g1;have a0:=I1 (V:=V) f { p with states:=p.states ++ [s] } l2 p' l' (hV.suf (((AE _ _).trans w3).trans (AE _ _))) (by intro x hx;simp at hx;rcases hx with hx | rfl;exact h1 x hx;exact w1) h2 g4;refine⟨a0.1,a0.2.1,a0.2.2.1,?_,a0.2.2.2.2⟩;have h3:=a0.2.2.2.1;simp only[Wx,length_cons] at h3 w2 ⊢;omega
  split at h
  .obtain⟨g,l1,g1,g2⟩:=bind_some h;obtain⟨w1,_,w2,w3⟩:=Kc (hV.suf (AE _ _)) g1;have a0:=I1 (V:=V) f { p with fns:=p.fns ++ [g] } l1 p' l' (hV.suf (w3.trans (AE _ _))) h1 (by intro x hx;simp at hx;rcases hx with hx | rfl;exact h2 x hx;exact w1) g2;refine⟨a0.1,a0.2.1,a0.2.2.1,?_,a0.2.2.2.2⟩;have h3:=a0.2.2.2.1;simp only[P0,length_cons] at h3 w2 ⊢;omega
  split at h
  .obtain⟨g,l1,g1,g2⟩:=bind_some h;obtain⟨w1,_,w2,w3⟩:=Kc (hV.suf (AE _ _)) g1;have a0:=I1 (V:=V) f { p with fns:=p.fns ++ [g] } l1 p' l' (hV.suf (w3.trans (AE _ _))) h1 (by intro x hx;simp at hx;rcases hx with hx | rfl;exact h2 x hx;exact w1) g2;refine⟨a0.1,a0.2.1,a0.2.2.1,?_,a0.2.2.2.2⟩;have h3:=a0.2.2.2.1;simp only[P0,length_cons] at h3 w2 ⊢;omega
  .simp[fail] at h
theorem program_sm{V:Nat->B->Nat->Prop}{l l':List Tok}{p:Pr}(hV:AllV V l)(h:program l=.inl (p,l')):WfP V p/\(prT p).length<=l.length:=by
 obtain⟨u,l1,h1,h2⟩:=bind_some h;obtain⟨v,l2,h3,h4⟩:=bind_some h2;obtain⟨u2,l3,h5,h6⟩:=bind_some h4;clear h h2 h4;obtain⟨t,rfl,_,_⟩:=H5 h1;clear h1;obtain⟨t2,rfl,hk,rfl⟩:∃t2,l1=t2 :: l2/\t2.kind=2/\t2.num=v:=by
  unfold number at h3;split at h3
  .rename_i a r;split at h3
   .rename_i hk;simp at h3;exact⟨a,by rw[h3.2],hk,h3.1⟩
   .simp[fail] at h3
  .simp[fail] at h3
 clear h3;obtain⟨t3,rfl⟩:=need_some h5;have hr:=I1 (V:=V) _ _ l3 p l' (hV.suf (((AE _ _).trans (AE _ _)).trans (AE _ _))) (by simp) (by simp) h6;obtain⟨r1,r2,r3,r4,r5⟩:=hr;simp at r1;refine⟨⟨⟨t2.text,by rw[r1];exact (hV t2 (by simp)).2.1 hk⟩,r2,r3⟩,?_⟩;simp only[prT,length_cons,length_append,length_nil];simp[ssT,fsT] at r4;omega
theorem Ao5{V:Nat->B->Nat->Prop}{f:Fn}(h:WfF V f):∀t∈fnT f,t.kind≠5:=by
 obtain⟨hn,hp,⟨c,hc⟩,hb,hd⟩:=h;intro t ht;simp only[fnT,mem_cons,mem_append] at ht;rcases ht with rfl | rfl | ht | rfl | rfl | ht | ht
 .simp[wd]
 .simp[mk4]
 .exact Na hp t ht
 .simp[mk4]
 .simp[mk4]
 .exact (tyT_spec hc).no5 t ht
 .exact K2 (Dl _) t ht
theorem Wy{V:Nat->B->Nat->Prop}:∀{l:List Fn},(∀f∈l,WfF V f)->∀t∈fsT l,t.kind≠5
 | [],_,t,ht=>by simp[fsT] at ht
 | s :: r,h,t,ht=>by
  simp only[fsT,mem_cons,mem_append] at ht;rcases ht with rfl | ht | ht
  .simp[wd]
  .exact Ao5 (h s (by simp)) t ht
  .exact Wy (λ x hx=>h x (by simp[hx])) t ht
theorem Ac5:Good [Hi]:=rfl
theorem R6{V:Nat->B->Nat->Prop}:∀(fs:List Fn) (p:Pr) (f:Nat),(∀g∈fs,WfF V g)->(fsT fs).length+1<f->parts f p (fsT fs ++ [Hi])=.inl ({ p with fns:=p.fns ++ fs.map Fn.er },[Hi])
 | [],p,f,_,hf=>by
  obtain⟨f,rfl⟩:∃f',f=f'+1:=⟨f - 1,by omega⟩;simp[fsT,parts,Hi]
 | g :: fs,p,f,h,hf=>by
  obtain⟨f,rfl⟩:∃f',f=f'+1:=⟨f - 1,by omega⟩;have hg:=h g (by simp);have a3:Good (fsT fs ++ [Hi]):=Bz (Wy (λ x hx=>h x (by simp[hx]))) Ac5;have hb:=Ao4 hg a3;have a0:=R6 (V:=V) fs { p with fns:=p.fns ++ [g.er] } f (λ x hx=>h x (by simp[hx])) (by simp only[fsT,length_cons,length_append] at hf;omega);have e:fsT (g :: fs) ++ [Hi]=wd (if g.on then [111,110] else [102,110]) :: (fnT g ++ (fsT fs ++ [Hi])):=by simp[fsT]
  rw[e,parts,if_neg (by simp[wd])];rcases hon:g.on with _ | _
  .rw[hon] at hb;rw[if_neg (by simp[sees,wd]),if_pos (by simp[sees,wd]),hb];simp only[bind];rw[a0];simp
  .rw[hon] at hb;rw[if_neg (by simp[sees,wd]),if_neg (by simp[sees,wd]),if_pos (by simp[sees,wd]),hb];simp only[bind];rw[a0];simp
theorem Ly{V:Nat->B->Nat->Prop}:∀(ss:List Sl) (fs:List Fn) (p:Pr) (f:Nat),(∀s∈ss,Fq V s)->(∀g∈fs,WfF V g)->(ssT ss).length+(fsT fs).length+1<f->parts f p (ssT ss ++ (fsT fs ++ [Hi]))=.inl ({ p with states:=p.states ++ ss.map Sl.er,fns:=p.fns ++ fs.map Fn.er },[Hi])
 | [],fs,p,f,_,h,hf=>by
  simp only[ssT,nil_append];rw[R6 (V:=V) fs p f h (by simp only[ssT,length_nil] at hf;omega)];simp
 | s :: ss,fs,p,f,hs,h,hf=>by
  obtain⟨f,rfl⟩:∃f',f=f'+1:=⟨f - 1,by omega⟩;have hb:=N0 (hs s (by simp)) (mk4 [59] :: (ssT ss ++ (fsT fs ++ [Hi])));have a0:=Ly (V:=V) ss fs { p with states:=p.states ++ [s.er] } f (λ x hx=>hs x (by simp[hx])) h (by simp only[ssT,length_cons,length_append] at hf;omega);have e:ssT (s :: ss) ++ (fsT fs ++ [Hi])=wd [115,116,97,116,101] :: (slT s ++ mk4 [59] :: (ssT ss ++ (fsT fs ++ [Hi]))):=by simp[ssT]
  rw[e,parts,if_neg (by simp[wd]),if_pos (by simp[sees,wd]),hb];simp only[bind,Ba];rw[a0];simp
theorem program_back{V:Nat->B->Nat->Prop}{p:Pr}(h:WfP V p):program (prT p)=.inl (p.er,[Hi]):=by
 obtain⟨hv,hs,hf⟩:=h;have hp:=Ly (V:=V) p.states p.fns ⟨p.version,[],[]⟩ ((ssT p.states ++ (fsT p.fns ++ [Hi])).length+1) hs hf (by simp);unfold prT;rw[program,needK,if_pos (by simp[sees,wd])];simp only[tail_cons,bind];rw[number,if_pos rfl];simp only[Ba];rw[hp];simp[Pr.er]
end Px
end
end Go.Proofs.YtpckmjfabiallaaGreatDoor
