/- Texts of ours, joined. -/
import Derived.Test.YtpckmjfabiallaaGreatDoorH04
import Derived.Test.YtpckmjfabiallaaGreatDoorH03
import Derived.Lib.AppendIntMem
set_option linter.unusedVariables false
set_option linter.unusedSimpArgs false
set_option maxRecDepth 100000
set_option maxHeartbeats 16000000
namespace Go.Proofs.YtpckmjfabiallaaGreatDoor
variable{b i m:Nat}{cs xs:List Value}{v:Value}{w w' w1 w2:World}
open List
open Tryz
section
namespace Px
open Lx (Tok B)
theorem Sv{t:Tok}(h:(levelOf t).1≠0):t.kind=4:=by
 by_cases hk:t.kind=4
 .exact hk
 .unfold levelOf at h;rw[if_neg hk] at h;simp at h
theorem chain_fuel{n:Nat}{q:P Ex}(hn:0<n)(hq:Ok q):∀(f g c:Nat) (acc:Ex) (l:List Tok),Good l->l.length<f->l.length<g->chain n q f c acc l=chain n q g c acc l
 | 0,_,_,_,_,_,h,_=>by omega
 | _,0,_,_,_,_,_,h=>by omega
 | f+1,g+1,c,acc,[],hg,_,_=>by exact absurd hg (by simp[Good])
 | f+1,g+1,c,acc,t :: r,hg,h1,h2=>by
  simp only[chain];by_cases hl:(levelOf t).1=n
  .rw[if_pos hl,if_pos hl];split
   .rfl
   .have hk:=Sv (t:=t) (by omega);have a0:=hg.tail (by omega);refine bind_congr λ x l1 e1=>?_
    have a1:=(hq r a0).ok x l1 e1;have:=a1.less;simp only[length_cons] at h1 h2;exact chain_fuel hn hq f g (c+1) _ l1 a1.good (by omega) (by omega)
  .rw[if_neg hl,if_neg hl]
theorem items_fuel{α:Type}{q:P α}(hq:Ok q):∀(f g n:Nat) (acc:List α) (l:List Tok),Good l->l.length<f->l.length<g->items q f n acc l=items q g n acc l
 | 0,_,_,_,_,_,h,_=>by omega
 | _,0,_,_,_,_,_,h=>by omega
 | f+1,g+1,n,acc,l,hg,h1,h2=>by
  simp only[items];split
  .rfl
  .refine bind_congr λ u l1 e1=>bind_congr λ x l2 e2=>?_
   have a1:=(sep_res hg).ok u l1 e1;have a2:=(hq l1 a1.good).ok x l2 e2;exact items_fuel hq f g (n+1) _ l2 a2.good (by have:=a1.less;have:=a2.less;omega) (by have:=a1.less;have:=a2.less;omega)
theorem ats_fuel{e:P Ex}(he:Ok e):∀(f g:Nat) (acc:Ex) (l:List Tok),Good l->l.length<f->l.length<g->ats e f acc l=ats e g acc l
 | 0,_,_,_,_,h,_=>by omega
 | _,0,_,_,_,_,h=>by omega
 | f+1,g+1,acc,l,hg,h1,h2=>by
  simp only[ats];split
  .rename_i hs;have a:=sees4 hs hg;refine bind_congr λ x l1 e1=>bind_congr λ u l2 e2=>?_
   have a1:=(he _ a.good).ok x l1 e1;have a2:=(need_res a1.good).ok u l2 e2;exact ats_fuel he f g _ l2 a2.good (by have:=a.less;have:=a1.less;have:=a2.less;omega) (by have:=a.less;have:=a1.less;have:=a2.less;omega)
  .rfl
def pa(k:Nat)(l:List Tok):R Ex:=bind (primary (lvl (unary k)) l) λ x l1=>ats (lvl (unary k)) (l1.length+1) x l1
end Px
namespace Px
open Lx (Tok B)
inductive Ty:Nat->B->List Tok->Prop
 | int {k:Nat}:Ty (k+1) [105,110,116] [wd [105,110,116]]
 | bool {k:Nat}:Ty (k+1) [98,111,111,108] [wd [98,111,111,108]]
 | text {k:Nat}:Ty (k+1) [116,101,120,116] [wd [116,101,120,116]]
 | list {k:Nat} {y:B} {c:List Tok}:Ty k y c->Ty (k+1) ([91] ++ y ++ [93]) (mk4 [91] :: (c ++ [mk4 [93]]))
 | map {k:Nat} {a y:B} {c:List Tok}:(a=[105,110,116]\/a=[116,101,120,116])->Ty k y c->Ty (k+1) ([123] ++ a ++ [58] ++ y ++ [125]) (mk4 [123] :: wd a :: mk4 [58] :: (c ++ [mk4 [125]]))
theorem Zc{l l':List Tok}{a:B}(h:key l=.inl (a,l')):(a=[105,110,116]\/a=[116,101,120,116])/\∃t,l=t :: l':=by
 unfold key at h;split at h
 .rename_i hs;obtain⟨t,r,rfl,_,_⟩:=sees_head hs;simp at h;exact⟨AI h.1.symm,t,by rw[h.2]⟩
 split at h
 .rename_i hs;obtain⟨t,r,rfl,_,_⟩:=sees_head hs;simp at h;exact⟨AJ h.1.symm,t,by rw[h.2]⟩
 .simp[fail] at h
theorem Oe:∀(k:Nat) (l:List Tok) (y:B) (l':List Tok),typ k l=.inl (y,l')->∃c,Ty k y c/\c.length+l'.length=l.length/\l' <:+ l
 | 0,l,y,l',h=>by simp[typ,fail] at h
 | k+1,l,y,l',h=>by
  simp only[typ] at h;split at h
  .rename_i hs;obtain⟨t,r,rfl,_,_⟩:=sees_head hs;simp at h;obtain⟨rfl,rfl⟩:=h;exact⟨_,.int,by simp;omega,AE _ _⟩
  split at h
  .rename_i hs;obtain⟨t,r,rfl,_,_⟩:=sees_head hs;simp at h;obtain⟨rfl,rfl⟩:=h;exact⟨_,.bool,by simp;omega,AE _ _⟩
  split at h
  .rename_i hs;obtain⟨t,r,rfl,_,_⟩:=sees_head hs;simp at h;obtain⟨rfl,rfl⟩:=h;exact⟨_,.text,by simp;omega,AE _ _⟩
  split at h
  .rename_i hs;obtain⟨t,r,rfl,_,_⟩:=sees_head hs;obtain⟨y1,l1,h1,h2⟩:=bind_some h;obtain⟨u,l2,h3,h4⟩:=bind_some h2;clear h h2;obtain⟨t2,rfl⟩:=need_some h3;simp at h4;obtain⟨rfl,rfl⟩:=h4;simp only[tail_cons] at h1;obtain⟨c,hc,hl,hs⟩:=Oe k r y1 _ h1;exact⟨_,.list hc,by simp at hl ⊢;omega,((AE _ _).trans hs).trans (AE _ _)⟩
  split at h
  .rename_i hs;obtain⟨t,r,rfl,_,_⟩:=sees_head hs;obtain⟨a,l1,h1,h2⟩:=bind_some h;obtain⟨u,l2,h3,h4⟩:=bind_some h2;obtain⟨y1,l3,h5,h6⟩:=bind_some h4;obtain⟨u2,l4,h7,h8⟩:=bind_some h6;clear h h2 h4 h6;simp only[tail_cons] at h1;obtain⟨ha,t1,rfl⟩:=Zc h1;clear h1;obtain⟨t2,rfl⟩:=need_some h3;clear h3;obtain⟨t3,rfl⟩:=need_some h7;simp only[Sum.inl.injEq,Prod.mk.injEq] at h8;obtain⟨rfl,rfl⟩:=h8;obtain⟨c,hc,hl,hs⟩:=Oe k l2 y1 _ h5;exact⟨_,.map ha hc,by simp at hl ⊢;omega,((((AE _ _).trans hs).trans (AE _ _)).trans (AE _ _)).trans (AE _ _)⟩
  .simp[fail] at h
open Classical in
noncomputable def tyT (y:B):List Tok:=if h:∃c,Ty 4 y c then Classical.choose h else []
theorem Zd{y:B}{c:List Tok}(h:Ty 4 y c):Ty 4 y (tyT y):=by
 have hh:∃c,Ty 4 y c:=⟨c,h⟩;unfold tyT;rw[dif_pos hh];exact Classical.choose_spec hh
theorem Ty.uniq{k:Nat}{y:B}{c:List Tok}(h:Ty k y c):∀{k':Nat} {y':B} {d:List Tok},Ty k' y' d->y'=y->c=d:=by
 induction h with
 | int=>
  intro k' y' d h2 e;cases h2 with
  | int=>rfl
  | bool=>simp at e
  | text=>simp at e
  | list=>simp at e
  | map=>simp at e
 | bool=>
  intro k' y' d h2 e;cases h2 with
  | int=>simp at e
  | bool=>rfl
  | text=>simp at e
  | list=>simp at e
  | map=>simp at e
 | text=>
  intro k' y' d h2 e;cases h2 with
  | int=>simp at e
  | bool=>simp at e
  | text=>rfl
  | list=>simp at e
  | map=>simp at e
 | list _ ih=>
  intro k' y' d h2 e;cases h2 with
  | int=>simp at e
  | bool=>simp at e
  | text=>simp at e
  | list h3=>
   simp at e;rw[ih h3 e]
  | map=>simp at e
 | @map k a y c ha _ ih=>
  intro k' y' d h2 e;cases h2 with
  | int=>simp at e
  | bool=>simp at e
  | text=>simp at e
  | list=>simp at e
  | map hb h3=>
   rcases ha with rfl | rfl <;> rcases hb with rfl | rfl
   .simp at e;rw[ih h3 e]
   .simp at e
   .simp at e
   .simp at e;rw[ih h3 e]
theorem Ze{y:B}{c:List Tok}(h:Ty 4 y c):tyT y=c:=(Zd h).uniq h rfl
noncomputable def slT (s:Sl):List Tok:=wd s.name :: mk4 [58] :: tyT s.type
def Ly(V:Nat->B->Nat->Prop)(t:B):Prop:=reserved t=false/\V 1 t 0
def Kd(V:Nat->B->Nat->Prop)(s:Sl):Prop:=Ly V s.name/\∃c,Ty 4 s.type c
theorem U1{V:Nat->B->Nat->Prop}{l l':List Tok}{s:Sl}(hV:AllV V l)(h:slot l=.inl (s,l')):Kd V s/\(slT s).length+l'.length<=l.length/\l' <:+ l:=by
 obtain⟨t,l1,h1,h2⟩:=bind_some h;obtain⟨u,l2,h3,h4⟩:=bind_some h2;obtain⟨y,l3,h5,h6⟩:=bind_some h4;clear h h2 h4;obtain⟨rfl,hk,hr⟩:=Df h1;clear h1;obtain⟨t2,rfl⟩:=need_some h3;simp at h6;obtain⟨rfl,rfl⟩:=h6;obtain⟨c,hc,hl,hs⟩:=Oe 4 l2 y _ h5;refine⟨⟨⟨hr,(hV t (by simp)).1 hk⟩,c,hc⟩,?_,(hs.trans (AE _ _)).trans (AE _ _)⟩;simp only[slT,length_cons,Ze hc];omega
def blk(l:List Tok):List Tok:=mk4 [123] :: (l ++ [mk4 [125]])
def stK(k:Nat)(n:B)(es:List (List Tok))(b c:List Tok)(none:Bool):List Tok:=
 if k=1 then wd [108,101,116] :: wd n :: mk4 [61] :: (es.getD 0 [] ++ [mk4 [59]])
 else if k=2 then (if es.length=1 then wd [115,101,116] :: wd n :: mk4 [61] :: (es.getD 0 [] ++ [mk4 [59]]) else wd [115,101,116] :: wd n :: mk4 [91] :: (es.getD 0 [] ++ mk4 [93] :: mk4 [61] :: (es.getD 1 [] ++ [mk4 [59]])))
 else if k=3 then wd [100,101,108] :: wd n :: mk4 [91] :: (es.getD 0 [] ++ [mk4 [93],mk4 [59]])
 else if k=4 then wd [105,102] :: (es.getD 0 [] ++ (blk b ++ if none then [] else wd [101,108,115,101] :: blk c))
 else if k=5 then wd [102,111,114] :: wd n :: wd [116,111] :: (es.getD 0 [] ++ blk b)
 else wd [114,101,116] :: (es.getD 0 [] ++ [mk4 [59]])
mutual
def stT:St->List Tok
 | .mk k n es b c _=>stK k n (es.map exT) (Ca b) (Ca c) c.isEmpty
def Ca:List St->List Tok
 | []=>[]
 | s :: r=>stT s ++ Ca r
end
mutual
def stD:St->Nat
 | .mk k n es b c _=>max (E0 (es.map exD)) (max (if k=4\/k=5 then 1+Hm b else 0) (if k=4/\c.isEmpty=false then 1+Hm c else 0))
def Hm:List St->Nat
 | []=>0
 | s :: r=>max (stD s) (Hm r)
end
def FormS(V:Nat->B->Nat->Prop)(k:Nat)(n:B)(len:Nat)(b c:List St):Prop:=
 (k=1/\Ly V n/\len=1/\b=[]/\c=[])\/(k=2/\Ly V n/\(len=1\/len=2)/\b=[]/\c=[])\/(k=3/\Ly V n/\len=1/\b=[]/\c=[])\/(k=4/\n=[]/\len=1)\/(k=5/\Ly V n/\len=1/\c=[])\/(k=6/\n=[]/\len=1/\b=[]/\c=[])
mutual
def WfS(V:Nat->B->Nat->Prop):St->Prop
 | .mk k n es b c _=>FormS V k n es.length b c/\(∀e∈es,WfE V e)/\Cg V b/\Cg V c
def Cg(V:Nat->B->Nat->Prop):List St->Prop
 | []=>True
 | s :: r=>WfS V s/\Cg V r
end
theorem Qc:∀(a b:List St),Ca (a ++ b)=Ca a ++ Ca b
 | [],b=>by simp[Ca]
 | s :: r,b=>by simp[Ca,Qc r b]
theorem Qe:∀(a b:List St),Hm (a ++ b)=max (Hm a) (Hm b)
 | [],b=>by simp[Hm]
 | s :: r,b=>by simp only[cons_append,Hm,Qe r b];omega
theorem Qf{V:Nat->B->Nat->Prop}:∀{a b:List St},Cg V a->Cg V b->Cg V (a ++ b)
 | [],b,_,h=>h
 | s :: r,b,h1,h2=>by
  simp only[Cg] at h1;simp only[cons_append,Cg];exact⟨h1.1,Qf h1.2 h2⟩
def SmS(V:Nat->B->Nat->Prop)(k:Nat)(q:P St):Prop:=∀l s l',AllV V l->q l=.inl (s,l')->WfS V s/\stD s<=k/\(stT s).length+l'.length<=l.length/\l' <:+ l
def SmB(V:Nat->B->Nat->Prop)(k:Nat)(q:P (List St)):Prop:=∀l b l',AllV V l->q l=.inl (b,l')->Cg V b/\1+Hm b<=k/\(blk (Ca b)).length+l'.length<=l.length/\l' <:+ l
theorem Qg{V:Nat->B->Nat->Prop}{k:Nat}{q:P St}(hq:SmS V k q):∀(f:Nat) (acc:List St) (l:List Tok) (b:List St) (l':List Tok),AllV V l->Cg V acc->Hm acc<=k->stmts q f acc l=.inl (b,l')->Cg V b/\Hm b<=k/\(Ca b).length+l'.length+1<=(Ca acc).length+l.length/\l' <:+ l
 | 0,_,_,_,_,_,_,_,h=>by simp[stmts] at h
 | f+1,acc,l,b,l',hV,hw,hd,h=>by
  simp only[stmts] at h;split at h
  .rename_i hs;obtain⟨t,r,rfl,_,_⟩:=sees_head hs;simp at h;obtain⟨rfl,rfl⟩:=h;exact⟨hw,hd,by simp;omega,AE _ _⟩
  .obtain⟨s,l1,h1,h2⟩:=bind_some h;obtain⟨w1,w2,w3,w4⟩:=hq l s l1 hV h1;have a0:=Qg hq f (acc ++ [s]) l1 b l' (hV.suf w4) (Qf hw (by simp only[Cg];exact⟨w1,trivial⟩)) (by rw[Qe];simp only[Hm];omega) h2;refine⟨a0.1,a0.2.1,?_,a0.2.2.2.trans w4⟩;have h3:=a0.2.2.1;rw[Qc] at h3;simp only[Ca,append_nil,length_append] at h3;omega
theorem Dn(k:Nat)(n:B)(es:List Ex)(b c:List St)(p:Nat):stT (.mk k n es b c p)=stK k n (es.map exT) (Ca b) (Ca c) c.isEmpty:=by rw[stT]
theorem Ah8{V:Nat->B->Nat->Prop}{k:Nat}{q:P (List St)}(hq:SmB V k q):SmS V k (stmt (Lt k) q):=by
 intro l s l' hV h;unfold stmt at h;split at h
 .rename_i hs;obtain⟨t0,r,rfl,_,_⟩:=sees_head hs;obtain⟨t,l1,h1,h2⟩:=bind_some h;obtain⟨u,l2,h3,h4⟩:=bind_some h2;obtain⟨x,l3,h5,h6⟩:=bind_some h4;obtain⟨u2,l4,h7,h8⟩:=bind_some h6;clear h h2 h4 h6;simp only[tail_cons] at h1;obtain⟨rfl,hk,hr⟩:=Df h1;clear h1;obtain⟨t2,rfl⟩:=need_some h3;clear h3;obtain⟨t3,rfl⟩:=need_some h7;simp at h8;obtain⟨rfl,rfl⟩:=h8;have a0:AllV V l2:=hV.suf (((AE _ _).trans (AE _ _)).trans (AE _ _));obtain⟨w1,w2,w3,w4⟩:=Ef V k a0 h5;refine⟨?_,?_,?_,((((AE _ _).trans w4).trans (AE _ _)).trans (AE _ _)).trans (AE _ _)⟩
  .simp only[WfS,Cg,FormS];exact⟨AI ⟨trivial,⟨hr,(hV t (by simp)).1 hk⟩,by simp⟩,by simpa using w1,trivial,trivial⟩
  .simp[stD,E0];omega
  .rw[Dn];simp[stK] at w3 ⊢;omega
 split at h
 .rename_i _ hs;obtain⟨t0,r,rfl,_,_⟩:=sees_head hs;obtain⟨t,l1,h1,h2⟩:=bind_some h;obtain⟨xs,l2,h3,h4⟩:=bind_some h2;obtain⟨u,l3,h5,h6⟩:=bind_some h4;obtain⟨x,l4,h7,h8⟩:=bind_some h6;obtain⟨u2,l5,h9,a3⟩:=bind_some h8;clear h h2 h4 h6 h8;simp only[tail_cons] at h1;obtain⟨rfl,hk,hr⟩:=Df h1;clear h1;obtain⟨t2,rfl⟩:=need_some h5;clear h5;obtain⟨t3,rfl⟩:=need_some h9;simp at a3;obtain⟨rfl,rfl⟩:=a3;have a5:Ly V t.text:=⟨hr,(hV t (by simp)).1 hk⟩;unfold opt at h3;split at h3
  .rename_i hs2;obtain⟨t4,r4,rfl,_,_⟩:=sees_head hs2;obtain⟨y,l6,g1,g2⟩:=bind_some h3;obtain⟨u3,l7,g3,g4⟩:=bind_some g2;clear h3 g2;obtain⟨t5,rfl⟩:=need_some g3;simp at g4;obtain⟨rfl,rfl⟩:=g4;simp only[tail_cons] at g1;have a0:AllV V r4:=hV.suf (((AE _ _).trans (AE _ _)).trans (AE _ _));obtain⟨v1,v2,v3,v4⟩:=Ef V k a0 g1;have a4:AllV V l3:=a0.suf (((AE _ _).trans (AE _ _)).trans v4);obtain⟨w1,w2,w3,w4⟩:=Ef V k a4 h7;refine⟨?_,?_,?_,(((AE _ _).trans w4).trans (((AE _ _).trans (AE _ _)).trans v4)).trans (((AE _ _).trans (AE _ _)).trans (AE _ _))⟩
   .simp only[WfS,Cg,FormS];exact⟨AJ (AI ⟨trivial,a5,by simp⟩),by simpa using ⟨v1,w1⟩,trivial,trivial⟩
   .simp[stD,E0];omega
   .rw[Dn];simp[stK] at v3 w3 ⊢;omega
  .simp at h3;obtain⟨rfl,rfl⟩:=h3;have a4:AllV V l3:=hV.suf (((AE _ _).trans (AE _ _)).trans (AE _ _));obtain⟨w1,w2,w3,w4⟩:=Ef V k a4 h7;refine⟨?_,?_,?_,((AE _ _).trans w4).trans (((AE _ _).trans (AE _ _)).trans (AE _ _))⟩
   .simp only[WfS,Cg,FormS];exact⟨AJ (AI ⟨trivial,a5,by simp⟩),by simpa using w1,trivial,trivial⟩
   .simp[stD,E0];omega
   .rw[Dn];simp[stK] at w3 ⊢;omega
 split at h
 .rename_i _ _ hs;obtain⟨t0,r,rfl,_,_⟩:=sees_head hs;obtain⟨t,l1,h1,h2⟩:=bind_some h;obtain⟨u,l2,h3,h4⟩:=bind_some h2;obtain⟨x,l3,h5,h6⟩:=bind_some h4;obtain⟨u2,l4,h7,h8⟩:=bind_some h6;obtain⟨u3,l5,h9,a3⟩:=bind_some h8;clear h h2 h4 h6 h8;simp only[tail_cons] at h1;obtain⟨rfl,hk,hr⟩:=Df h1;clear h1;obtain⟨t2,rfl⟩:=need_some h3;clear h3;obtain⟨t3,rfl⟩:=need_some h7;clear h7;obtain⟨t4,rfl⟩:=need_some h9;simp at a3;obtain⟨rfl,rfl⟩:=a3;have a0:AllV V l2:=hV.suf (((AE _ _).trans (AE _ _)).trans (AE _ _));obtain⟨w1,w2,w3,w4⟩:=Ef V k a0 h5;refine⟨?_,?_,?_,(((AE _ _).trans (AE _ _)).trans w4).trans (((AE _ _).trans (AE _ _)).trans (AE _ _))⟩
  .simp only[WfS,Cg,FormS];exact⟨AJ (AJ (AI ⟨trivial,⟨hr,(hV t (by simp)).1 hk⟩,by simp⟩)),by simpa using w1,trivial,trivial⟩
  .simp[stD,E0];omega
  .rw[Dn];simp[stK] at w3 ⊢;omega
 split at h
 .rename_i _ _ _ hs;obtain⟨t0,r,rfl,_,_⟩:=sees_head hs;obtain⟨x,l1,h1,h2⟩:=bind_some h;obtain⟨b,l2,h3,h4⟩:=bind_some h2;obtain⟨c,l3,h5,h6⟩:=bind_some h4;clear h h2 h4;simp at h6;obtain⟨rfl,rfl⟩:=h6;simp only[tail_cons] at h1;have a0:AllV V r:=hV.suf (AE _ _);obtain⟨w1,w2,w3,w4⟩:=Ef V k a0 h1;obtain⟨v1,v2,v3,v4⟩:=hq l1 b l2 (a0.suf w4) h3;unfold other at h5;split at h5
  .rename_i hs2;obtain⟨t4,r4,rfl,_,_⟩:=sees_head hs2;simp only[tail_cons] at h5;obtain⟨z1,z2,z3,z4⟩:=hq r4 c _ (a0.suf (((AE _ _).trans v4).trans w4)) h5;refine⟨?_,?_,?_,(((z4.trans (AE _ _)).trans v4).trans w4).trans (AE _ _)⟩
   .simp only[WfS,FormS];exact⟨AJ (AJ (AJ (AI ⟨trivial,trivial,by simp⟩))),by simpa using w1,v1,z1⟩
   .simp only[stD,map_cons,map_nil,E0];simp;split <;> omega
   .rw[Dn];rcases c with _ | ⟨s,c⟩
    .simp[stK,blk] at w3 v3 z3 ⊢;omega
    .simp[stK,blk] at w3 v3 z3 ⊢;omega
  .simp at h5;obtain⟨rfl,rfl⟩:=h5;refine⟨?_,?_,?_,(v4.trans w4).trans (AE _ _)⟩
   .simp only[WfS,Cg,FormS];exact⟨AJ (AJ (AJ (AI ⟨trivial,trivial,by simp⟩))),by simpa using w1,v1,trivial⟩
   .simp only[stD,map_cons,map_nil,E0];simp;omega
   .rw[Dn];simp[stK,blk] at w3 v3 ⊢;omega
 split at h
 .rename_i _ _ _ _ hs;obtain⟨t0,r,rfl,_,_⟩:=sees_head hs;obtain⟨t,l1,h1,h2⟩:=bind_some h;obtain⟨u,l2,h3,h4⟩:=bind_some h2;obtain⟨x,l3,h5,h6⟩:=bind_some h4;obtain⟨b,l4,h7,h8⟩:=bind_some h6;clear h h2 h4 h6;simp only[tail_cons] at h1;obtain⟨rfl,hk,hr⟩:=Df h1;clear h1;obtain⟨t2,rfl,_,_⟩:=G0 h3;simp at h8;obtain⟨rfl,rfl⟩:=h8;have a0:AllV V l2:=hV.suf (((AE _ _).trans (AE _ _)).trans (AE _ _));obtain⟨w1,w2,w3,w4⟩:=Ef V k a0 h5;obtain⟨v1,v2,v3,v4⟩:=hq l3 b _ (a0.suf w4) h7;refine⟨?_,?_,?_,(v4.trans w4).trans (((AE _ _).trans (AE _ _)).trans (AE _ _))⟩
  .simp only[WfS,Cg,FormS];exact⟨AJ (AJ (AJ (AJ (AI ⟨trivial,⟨hr,(hV t (by simp)).1 hk⟩,by simp⟩)))),by simpa using w1,v1,trivial⟩
  .simp only[stD,map_cons,map_nil,E0];simp;omega
  .rw[Dn];simp[stK,blk] at w3 v3 ⊢;omega
 split at h
 .rename_i _ _ _ _ _ hs;obtain⟨t0,r,rfl,_,_⟩:=sees_head hs;obtain⟨x,l1,h1,h2⟩:=bind_some h;obtain⟨u,l2,h3,h4⟩:=bind_some h2;clear h h2;obtain⟨t2,rfl⟩:=need_some h3;simp at h4;obtain⟨rfl,rfl⟩:=h4;simp only[tail_cons] at h1;obtain⟨w1,w2,w3,w4⟩:=Ef V k (hV.suf (AE _ _)) h1;refine⟨?_,?_,?_,((AE _ _).trans w4).trans (AE _ _)⟩
  .simp only[WfS,Cg,FormS];exact⟨AJ (AJ (AJ (AJ (AJ ⟨trivial,trivial,by simp⟩)))),by simpa using w1,trivial,trivial⟩
  .simp[stD,E0];omega
  .rw[Dn];simp[stK] at w3 ⊢;omega
 .simp[fail] at h
theorem Qh(V:Nat->B->Nat->Prop):∀k,SmB V k (block k)
 | 0=>by intro l b l' hV h;simp[block,fail] at h
 | k+1=>by
  intro l b l' hV h;simp only[block] at h;obtain⟨u,l1,h1,h2⟩:=bind_some h;clear h;obtain⟨t,rfl⟩:=need_some h1;obtain⟨w1,w2,w3,w4⟩:=Qg (Ah8 (Qh V k)) _ [] l1 b l' (hV.suf (AE _ _)) (by simp[Cg]) (by simp[Hm]) h2;exact⟨w1,by omega,by simp[blk,Ca] at w3 ⊢;omega,w4.trans (AE _ _)⟩
end Px
namespace Px
open Lx (Tok B)
theorem Qi{V:Nat->B->Nat->Prop}:∀(f n:Nat) (acc:List Sl) (l:List Tok) (xs:List Sl) (l':List Tok),AllV V l->(∀x∈acc,Kd V x)->n=acc.length->items slot f n acc l=.inl (xs,l') ->
  (∀x∈xs,Kd V x)/\(Bx (xs.map slT)).length+l'.length+1<=(Bx (acc.map slT)).length+l.length/\l' <:+ l
 | 0,_,_,_,_,_,_,_,_,h=>by simp[items] at h
 | f+1,n,acc,l,xs,l',hV,hw,hn,h=>by
  simp only[items] at h;split at h
  .rename_i hs;obtain⟨t,r,rfl,_,_⟩:=sees_head hs;simp at h;obtain⟨rfl,rfl⟩:=h;exact⟨hw,by simp;omega,AE _ _⟩
  .obtain⟨u,l1,hu,h1⟩:=bind_some h;obtain⟨y,l2,hy,h2⟩:=bind_some h1;have a3:l1 <:+ l:=by
    rcases sep_some hu with⟨_,rfl⟩ | ⟨_,t,rfl⟩
    .exact suffix_refl _
    .exact AE _ _
   obtain⟨w1,w3,w4⟩:=U1 (hV.suf a3) hy;have a0:=Qi f (n+1) (acc ++ [y]) l2 xs l' (hV.suf (w4.trans a3)) (λ x hx=>by simp at hx;rcases hx with hx | rfl;exact hw x hx;exact w1) (by simp[hn]) h2;refine⟨a0.1,?_,a0.2.2.trans (w4.trans a3)⟩;have h3:=a0.2.1;rw[map_append,map_cons,map_nil,commas_snoc] at h3;rcases sep_some hu with⟨h0,rfl⟩ | ⟨h0,t,rfl⟩
   .have:acc=[]:=length_eq_zero_iff.1 (by omega);subst this;simp only[map_nil,if_true] at h3 ⊢;omega
   .have:¬acc.map slT=[]:=by
     intro e;rw[map_eq_nil_iff] at e;subst e;simp at hn;omega
    rw[if_neg this] at h3;simp only[length_cons] at h3 w3 ⊢;omega
noncomputable def fnT (f:Fn):List Tok:=wd f.name :: mk4 [40] :: (Bx (f.params.map slT) ++ mk4 [41] :: mk4 [58] :: (tyT f.result ++ blk (Ca f.body)))
def WfF(V:Nat->B->Nat->Prop)(f:Fn):Prop:=Ly V f.name/\(∀s∈f.params,Kd V s)/\(∃c,Ty 4 f.result c)/\Cg V f.body/\1+Hm f.body<=24
theorem I0{V:Nat->B->Nat->Prop}{on:Bool}{l l':List Tok}{f:Fn}(hV:AllV V l)(h:function on l=.inl (f,l')):WfF V f/\f.on=on/\(fnT f).length+l'.length<=l.length/\l' <:+ l:=by
 obtain⟨t,l1,h1,h2⟩:=bind_some h;obtain⟨u,l2,h3,h4⟩:=bind_some h2;obtain⟨ps,l3,h5,h6⟩:=bind_some h4;obtain⟨u2,l4,h7,h8⟩:=bind_some h6;obtain⟨y,l5,h9,a0⟩:=bind_some h8;obtain⟨b,l6,a6,a3⟩:=bind_some a0;clear h h2 h4 h6 h8 a0;obtain⟨rfl,hk,hr⟩:=Df h1;clear h1;obtain⟨t2,rfl⟩:=need_some h3;clear h3;obtain⟨t3,rfl⟩:=need_some h7;simp at a3;obtain⟨rfl,rfl⟩:=a3;have a4:AllV V l2:=hV.suf ((AE _ _).trans (AE _ _));obtain⟨w1,w2,w3⟩:=Qi (V:=V) _ 0 [] l2 ps (t3 :: l4) a4 (by simp) rfl h5;obtain⟨c,hc,hl,hs⟩:=Oe 4 l4 y l5 h9;have a5:AllV V l5:=a4.suf ((hs.trans (AE _ _)).trans w3);obtain⟨v1,v2,v3,v4⟩:=Qh V 24 l5 b _ a5 a6;refine⟨⟨⟨hr,(hV t (by simp)).1 hk⟩,w1,⟨c,hc⟩,v1,v2⟩,rfl,?_,(((v4.trans hs).trans (AE _ _)).trans w3).trans ((AE _ _).trans (AE _ _))⟩;simp only[fnT,Ze hc];simp[Bx] at w2 ⊢;omega
noncomputable def ssT:List Sl->List Tok
 | []=>[]
 | s :: r=>wd [115,116,97,116,101] :: (slT s ++ mk4 [59] :: ssT r)
noncomputable def fsT:List Fn->List Tok
 | []=>[]
 | f :: r=>wd (if f.on then [111,110] else [102,110]) :: (fnT f ++ fsT r)
def Au9:Tok:=⟨5,[],0,0⟩
noncomputable def prT (p:Pr):List Tok:=wd [118,101,114,115,105,111,110] :: ⟨2,dg p.version,p.version,0⟩ :: mk4 [59] :: (ssT p.states ++ (fsT p.fns ++ [Au9]))
def WfP(V:Nat->B->Nat->Prop)(p:Pr):Prop:=(∃x,V 2 x p.version)/\(∀s∈p.states,Kd V s)/\(∀f∈p.fns,WfF V f)
theorem U2:∀(a:List Sl) (s:Sl),(ssT (a ++ [s])).length=(ssT a).length+(slT s).length+2
 | [],s=>by simp[ssT]
 | x :: r,s=>by
  have:=U2 r s;simp only[cons_append,ssT,length_cons,length_append,this];omega
theorem Og:∀(a:List Fn) (f:Fn),(fsT (a ++ [f])).length=(fsT a).length+(fnT f).length+1
 | [],f=>by simp[fsT]
 | x :: r,f=>by
  have:=Og r f;simp only[cons_append,fsT,length_cons,length_append,this];omega
theorem Hn{V:Nat->B->Nat->Prop}:∀(f:Nat) (p:Pr) (l:List Tok) (p':Pr) (l':List Tok),AllV V l->(∀s∈p.states,Kd V s)->(∀f∈p.fns,WfF V f)->parts f p l=.inl (p',l') ->
  p'.version=p.version/\(∀s∈p'.states,Kd V s)/\(∀f∈p'.fns,WfF V f)/\(ssT p'.states).length+(fsT p'.fns).length+l'.length<=(ssT p.states).length+(fsT p.fns).length+l.length/\1<=l'.length
 | 0,_,_,_,_,_,_,_,h=>by simp[parts] at h
 | f+1,p,[],_,_,_,_,_,h=>by simp[parts] at h
 | f+1,p,t :: r,p',l',hV,h1,h2,h=>by
  simp only[parts] at h;split at h
  .simp at h;obtain⟨rfl,rfl⟩:=h;exact⟨rfl,h1,h2,AD _,by simp⟩
  split at h
  .obtain⟨s,l1,g1,g2⟩:=bind_some h;obtain⟨u,l2,g3,g4⟩:=bind_some g2;clear h g2;obtain⟨t2,rfl⟩:=need_some g3;obtain⟨w1,w2,w3⟩:=U1 (hV.suf (AE _ _)) g1;have a0:=Hn (V:=V) f { p with states:=p.states ++ [s] } l2 p' l' (hV.suf (((AE _ _).trans w3).trans (AE _ _))) (by intro x hx;simp at hx;rcases hx with hx | rfl;exact h1 x hx;exact w1) h2 g4;refine⟨a0.1,a0.2.1,a0.2.2.1,?_,a0.2.2.2.2⟩;have h3:=a0.2.2.2.1;simp only[U2,length_cons] at h3 w2 ⊢;omega
  split at h
  .obtain⟨g,l1,g1,g2⟩:=bind_some h;obtain⟨w1,_,w2,w3⟩:=I0 (hV.suf (AE _ _)) g1;have a0:=Hn (V:=V) f { p with fns:=p.fns ++ [g] } l1 p' l' (hV.suf (w3.trans (AE _ _))) h1 (by intro x hx;simp at hx;rcases hx with hx | rfl;exact h2 x hx;exact w1) g2;refine⟨a0.1,a0.2.1,a0.2.2.1,?_,a0.2.2.2.2⟩;have h3:=a0.2.2.2.1;simp only[Og,length_cons] at h3 w2 ⊢;omega
  split at h
  .obtain⟨g,l1,g1,g2⟩:=bind_some h;obtain⟨w1,_,w2,w3⟩:=I0 (hV.suf (AE _ _)) g1;have a0:=Hn (V:=V) f { p with fns:=p.fns ++ [g] } l1 p' l' (hV.suf (w3.trans (AE _ _))) h1 (by intro x hx;simp at hx;rcases hx with hx | rfl;exact h2 x hx;exact w1) g2;refine⟨a0.1,a0.2.1,a0.2.2.1,?_,a0.2.2.2.2⟩;have h3:=a0.2.2.2.1;simp only[Og,length_cons] at h3 w2 ⊢;omega
  .simp[fail] at h
theorem program_sm{V:Nat->B->Nat->Prop}{l l':List Tok}{p:Pr}(hV:AllV V l)(h:program l=.inl (p,l')):WfP V p/\(prT p).length<=l.length:=by
 obtain⟨u,l1,h1,h2⟩:=bind_some h;obtain⟨v,l2,h3,h4⟩:=bind_some h2;obtain⟨u2,l3,h5,h6⟩:=bind_some h4;clear h h2 h4;obtain⟨t,rfl,_,_⟩:=G0 h1;clear h1;obtain⟨t2,rfl,hk,rfl⟩:∃t2,l1=t2 :: l2/\t2.kind=2/\t2.num=v:=by
  unfold number at h3;split at h3
  .rename_i a r;split at h3
   .rename_i hk;simp at h3;exact⟨a,by rw[h3.2],hk,h3.1⟩
   .simp[fail] at h3
  .simp[fail] at h3
 clear h3;obtain⟨t3,rfl⟩:=need_some h5;have hr:=Hn (V:=V) _ _ l3 p l' (hV.suf (((AE _ _).trans (AE _ _)).trans (AE _ _))) (by simp) (by simp) h6;obtain⟨r1,r2,r3,r4,r5⟩:=hr;simp at r1;refine⟨⟨⟨t2.text,by rw[r1];exact (hV t2 (by simp)).2.1 hk⟩,r2,r3⟩,?_⟩;simp only[prT,length_cons,length_append,length_nil];simp[ssT,fsT] at r4;omega
end Px
def Sep(c:UInt8):Prop:=Lx.isPart c=false/\Lx.isDigit c=false/\c≠61/\c≠38/\c≠124
def An9(a b:Option UInt8):Prop:=b=a\/∀c,b=some c->Sep c
theorem U3{dot:Bool}{x:UInt8}{r l2:AQ}{k:Nat}{t:AQ}{n:Nat}(h:Lx.tokR dot (x :: r)=Lx.R.ok k t m n)
  (ht:l2.take n=(x :: r).take n) (hb:An9 (x :: r)[n]? l2[n]?):Lx.tokR dot l2=Lx.R.ok k t m n:=by
 have hk:=B7 h;obtain⟨n',rfl⟩:∃n',n=n'+1:=⟨n - 1,by omega⟩
 match l2,ht,hb with
 | [],ht,_=>simp at ht
 | y :: r2,ht,hb=>
  have a0:=ht;simp only[take_succ_cons,List.cons.injEq] at a0;obtain⟨rfl,a0⟩:=a0;simp only[Lx.tokR] at h ⊢;split at h
  .rename_i hl;rw[if_pos hl];unfold Lx.nameR at h ⊢;split at h
   .rename_i h16;simp only[Lx.R.ok,Sum.inl.injEq,Prod.mk.injEq] at h;have e:(y :: r2).takeWhile Lx.isPart=(y :: r).takeWhile Lx.isPart:=by
     rw[<-h.2.2.2] at ht hb;refine N9 ht (λ c hc=>?_);rcases hb with hb | hb
     .exact Uw (hb ▸ hc)
     .exact (hb c hc).1
    rw[e,if_pos h16];simp only[Lx.R.ok,Sum.inl.injEq,Prod.mk.injEq];exact h
   .simp[Lx.R.ok,Lx.R.bad] at h
  .rename_i hl;rw[if_neg hl];split at h
   .rename_i hd;rw[if_pos hd];unfold Lx.numberR at h ⊢;split at h
    .simp[Lx.R.ok,Lx.R.bad] at h
    .rename_i h48;split at h
     .rename_i hv;simp only[Lx.R.ok,Sum.inl.injEq,Prod.mk.injEq] at h;have e:(y :: r2).takeWhile Lx.isDigit=(y :: r).takeWhile Lx.isDigit:=by
       rw[<-h.2.2.2] at ht hb;refine N9 ht (λ c hc=>?_);rcases hb with hb | hb
       .exact Uw (hb ▸ hc)
       .exact (hb c hc).2.1
      rw[e,if_neg h48,if_pos hv];simp only[Lx.R.ok,Sum.inl.injEq,Prod.mk.injEq];exact h
     .simp[Lx.R.ok,Lx.R.bad] at h
   .rename_i hd;rw[if_neg hd];split at h
    .rename_i h34;rw[if_pos h34];exact quote_local r.length r r2 1 [] k t m (n'+1) (AD _) h (by simpa using a0)
    .rename_i h34;rw[if_neg h34];unfold Lx.markR at h ⊢;split at h
     .simp[Lx.R.ok,Lx.R.bad] at h
     .rename_i hz;simp only[Lx.R.ok,Sum.inl.injEq,Prod.mk.injEq] at h;have e:Lx.markN dot (y :: r2)=Lx.markN dot (y :: r):=by
       obtain⟨_,_,_,hn⟩:=h;clear hl hd h34 hz;rcases h2:Lx.two (y :: r) with _ | _
       .have a4:Lx.markN dot (y :: r)=if Lx.one dot y then 1 else 0:=by unfold Lx.markN;rw[h2];rfl
        have a3:n'=0:=by rw[a4] at hn;split at hn <;> omega
        subst a3;have a5:Lx.two (y :: r2)=false:=by
         rcases hr2:r2 with _ | ⟨z,r3⟩
         .rfl
         .rcases hb with hb | hb
          .rw[hr2] at hb;rcases r with _ | ⟨z',r'⟩
           .simp at hb
           .simp at hb;subst hb;simpa [Lx.two] using h2
          .have:=hb z (by rw[hr2];rfl);simp[Lx.two,this.2.2.1,this.2.2.2.1,this.2.2.2.2]
        rw[a4];unfold Lx.markN;rw[a5];rfl
       .have a6:Lx.markN dot (y :: r)=2:=by unfold Lx.markN;rw[h2];rfl
        have a3:n'=1:=by omega
        subst a3;rcases r with _ | ⟨z',r'⟩
        .simp[Lx.two] at h2
        .rcases r2 with _ | ⟨z,r3⟩
         .simp at a0
         .simp at a0;subst a0;rw[a6];unfold Lx.markN;rw[show Lx.two (y :: z :: r3)=Lx.two (y :: z :: r') from rfl,h2];rfl
      rw[e,if_neg hz];simp only[Lx.R.ok,Sum.inl.injEq,Prod.mk.injEq];rw[<-h.2.2.2] at ht;rw[ht];exact h
end
section
open Px (TS TSim Ins)
theorem quote_plain:∀(N:Nat) (l:AQ) (o:Nat) (acc:AQ) (k:Nat) (t:AQ) (m n:Nat),l.length<=N->Lx.quoteR l o acc=Lx.R.ok k t m n->acc.all Lx.isPlain=true->plainB t=true
 | N,[],o,acc,k,t,m,n,_,h,_=>by simp[Lx.quoteR,Lx.R.bad,Lx.R.ok] at h
 | 0,c :: r,o,acc,k,t,m,n,hN,h,_=>by simp at hN
 | N+1,c :: r,o,acc,k,t,m,n,hN,h,ha=>by
  rw[A8] at h;simp only[length_cons] at hN;split at h
  .split at h
   .rename_i h256;simp[Lx.R.ok] at h;rw[<-h.2.1];simp only[plainB,ha,Bool.and_true,decide_eq_true_eq];exact h256
   .simp[Lx.R.ok,Lx.R.bad] at h
  .split at h
   .split at h
    .simp[Lx.R.ok,Lx.R.bad] at h
    .split at h
     .rename_i d r' hd;refine quote_plain N r' (o+2) _ k t m n (by simp at hN;omega) h ?_;have:Lx.isPlain d=true:=by
       simp only[Lx.isEsc,Bool.or_eq_true,beq_iff_eq] at hd;rcases hd with rfl | rfl <;> decide
      simp[ha,this]
     .simp[Lx.R.ok,Lx.R.bad] at h
   .split at h
    .rename_i hp;exact quote_plain N r (o+1) _ k t m n (by omega) h (by simp[ha,hp])
    .simp[Lx.R.ok,Lx.R.bad] at h
theorem Ke{dot:Bool}{x:UInt8}{r:AQ}{k:Nat}{t:AQ}{n:Nat}(h:Lx.tokR dot (x :: r)=Lx.R.ok k t m n):(k=3/\m=0/\plainB t=true)\/(k≠3/\t=(x :: r).take n):=by
 simp only[Lx.tokR] at h;split at h
 .unfold Lx.nameR at h;split at h
  .simp only[Lx.R.ok,Sum.inl.injEq,Prod.mk.injEq] at h;obtain⟨rfl,rfl,_,rfl⟩:=h;exact AJ ⟨by decide,(Lx.tw_take _).symm⟩
  .simp[Lx.R.ok,Lx.R.bad] at h
 .split at h
  .unfold Lx.numberR at h;split at h
   .simp[Lx.R.ok,Lx.R.bad] at h
   .split at h
    .simp only[Lx.R.ok,Sum.inl.injEq,Prod.mk.injEq] at h;obtain⟨rfl,rfl,_,rfl⟩:=h;exact AJ ⟨by decide,(Lx.tw_take _).symm⟩
    .simp[Lx.R.ok,Lx.R.bad] at h
  .split at h
   .have hk:=Bk r.length r 1 [] k t m n (AD _) h;exact AI ⟨hk.1,hk.2.1,quote_plain r.length r 1 [] k t m n (AD _) h rfl⟩
   .unfold Lx.markR at h;split at h
    .simp[Lx.R.ok,Lx.R.bad] at h
    .simp only[Lx.R.ok,Sum.inl.injEq,Prod.mk.injEq] at h;obtain⟨rfl,rfl,_,rfl⟩:=h;exact AJ ⟨by decide,rfl⟩
def Qj(k:Nat)(t:AQ):List UInt8:=if k=3 then Ey t else t
def As2(z:AQ):Prop:=∀c,z.head?=some c->Sep c
structure Wf(dot:Bool)(k:Nat)(t:AQ)(m:Nat):Prop where
 head:∃y r,Qj k t=y :: r/\Lx.isBlank y=false/\y≠35
 reads:∀z,As2 z->Lx.tokR dot (Qj k t ++ z)=Lx.R.ok k t m (Qj k t).length
theorem Ao0{dot:Bool}{x:UInt8}{r:AQ}{k:Nat}{t:AQ}{n:Nat}(h:Lx.tokR dot (x :: r)=Lx.R.ok k t m n)(hx:Lx.isBlank x=false/\x≠35):Wf dot k t m:=by
 have a3:=B7 h;rcases Ke h with⟨rfl,rfl,hp⟩ | ⟨hk,ht⟩
 .have hw:Qj 3 t=34 :: (Cq t ++ [34]):=rfl;refine⟨⟨34,_,hw,by decide,by decide⟩,λ z hz=>?_⟩;simp only[plainB,Bool.and_eq_true,decide_eq_true_eq] at hp;have ht:Lx.tokR dot (34 :: (Cq t ++ [34]))=Lx.R.ok 3 t 0 (Qj 3 t).length:=by
   have e:Lx.tokR dot (34 :: (Cq t ++ [34]))=Lx.quoteR (Cq t ++ [34]) 1 []:=by simp[Lx.tokR,Lx.isLetter,Lx.isDigit]
   rw[e,Gy t 1 [] hp.2];simp only[nil_append];rw[if_pos hp.1,hw];simp only[length_cons,length_append,length_nil];rw[show 1+(Cq t).length+1=(Cq t).length+(0+1)+1 by omega]
  refine U3 ht ?_ (AJ λ c hc=>?_)
  .rw[<-hw,take_append_of_le_length (Nat.le_refl _)]
  .rw[List.getElem?_append_right (Nat.le_refl _),Nat.sub_self] at hc;exact hz c (by rw[List.head?_eq_getElem?];exact hc)
 .have hw:Qj k t=(x :: r).take n:=by unfold Qj;rw[if_neg hk,ht]
  have a0:((x :: r).take n).length=n:=by simp only[length_take,length_cons];omega
  obtain⟨n',rfl⟩:∃n',n=n'+1:=⟨n - 1,by omega⟩;refine⟨⟨x,r.take n',by rw[hw];rfl,hx.1,hx.2⟩,λ z hz=>?_⟩;rw[hw,a0];refine U3 h ?_ (AJ λ c hc=>?_)
  .rw[take_append_of_le_length (by omega),take_take,Nat.min_self]
  .rw[List.getElem?_append_right (by omega),a0,Nat.sub_self] at hc;exact hz c (by rw[List.head?_eq_getElem?];exact hc)
theorem Ao1(dot:Bool)(l:AQ):∀(N i c:Nat) (ts:List Lx.Tok),l.length - i<N->i<=l.length->Lx.lexGo dot (l.drop i) i c=.inl ts->∀t∈ts,(t.kind=5/\t.text=[]/\t.num=0)\/Wf dot t.kind t.text t.num:=by
 intro N;induction N with
 | zero=>intro i c ts hN;omega
 | succ N ih=>
  intro i c ts hN hi h;obtain⟨u,a5,rfl,a8,hc,a3⟩:=F6 h;have a6:=Lx.skip_le false (l.drop i);simp only[length_drop] at a6;rcases a3 with⟨hd,rfl,rfl⟩ | ⟨x,r,k,t,m,n,hd,ht,rfl,a0⟩
  .intro t ht;simp at ht;subst ht;exact AI ⟨rfl,rfl,rfl⟩
  .have a7:=B7 ht;have a4:=congrArg List.length hd;simp at a4;rw[drop_drop,<-Nat.add_assoc] at a0;have hw:=ih (i+Lx.skipF false (l.drop i)+n) (c+1) a5 (by omega) (by omega) a0;intro t2 ht2;simp only[mem_cons] at ht2;rcases ht2 with rfl | ht2
   .exact AJ (Ao0 ht (Lx.skip_head false (l.drop i) x (by rw[hd];rfl)))
   .exact hw t2 ht2
end
section
open Px (TS TSim Ex exT Ds WfE WfEs lowE lv opL opX mk4 wd dg within Bx)
open Lx (B Tok)
def Any:B->Prop:=λ _=>True
def m1:B:=[40,41,123,125,91,93,58,59,44,43,45,42,47,37]
def VW(k:Nat)(t:B)(m:Nat):Prop:=Wf true k t m
def withinS(b:Bool)(s:B):B:=if b then 40 :: (s ++ [41]) else s
def commasS:List B->B
 | []=>[]
 | [a]=>a
 | a :: b :: r=>a ++ 44 :: 32 :: commasS (b :: r)
def Lz(k o n:Nat)(t:B)(args:List Ex)(xs:List B):B:=
 if k=1 then dg n else if k=2 then (if n=1 then [116,114,117,101] else [102,97,108,115,101]) else if k=3 then Ey t else if k=6 then t
 else if k=7 then t ++ 40 :: (commasS xs ++ [41])
 else if k=12 then withinS (lowE 7 (args.getD 0 default)) (xs.getD 0 []) ++ 91 :: (xs.getD 1 [] ++ [93])
 else if k=13 then 45 :: withinS (lowE 6 (args.getD 0 default)) (xs.getD 0 [])
 else if k=14 then 33 :: withinS (lowE 6 (args.getD 0 default)) (xs.getD 0 [])
 else withinS (lowE (lv o) (args.getD 0 default)) (xs.getD 0 []) ++ 32 :: (opX o ++ 32 :: withinS (lowE (opL o+1) (args.getD 1 default)) (xs.getD 1 []))
mutual
def exS:Ex->B
 | .mk k o n t args _=>Lz k o n t args (Oh args)
def Oh:List Ex->List B
 | []=>[]
 | e :: r=>exS e :: Oh r
end
theorem Qk:∀l,Oh l=l.map exS
 | []=>by simp[Oh]
 | e :: r=>by simp[Oh,Qk r]
end
section
open Px (TS TSim Ex St Sl Pr exT stT Ca blk WfE WfS Cg Kd WfF WfP Ly Ty tyT slT fnT ssT fsT prT Au9 mk4 wd dg Bx)
open Lx (B Tok)
def blkS(s ind:B)(none:Bool):B:=if none then [123,125] else 123 :: 10 :: (s ++ (ind ++ [125]))
def L0(k:Nat)(n:B)(es:List B)(b c:B)(none:Bool):B:=
 if k=1 then [108,101,116,32] ++ (n ++ ([32,61,32] ++ (es.getD 0 [] ++ [59])))
 else if k=2 then (if es.length=1 then [115,101,116,32] ++ (n ++ ([32,61,32] ++ (es.getD 0 [] ++ [59]))) else [115,101,116,32] ++ (n ++ ([91] ++ (es.getD 0 [] ++ ([93,32,61,32] ++ (es.getD 1 [] ++ [59]))))))
 else if k=3 then [100,101,108,32] ++ (n ++ ([91] ++ (es.getD 0 [] ++ [93,59])))
 else if k=4 then [105,102,32] ++ (es.getD 0 [] ++ ([32] ++ (b ++ if none then [] else [32,101,108,115,101,32] ++ c)))
 else if k=5 then [102,111,114,32] ++ (n ++ ([32,116,111,32] ++ (es.getD 0 [] ++ ([32] ++ b))))
 else [114,101,116,32] ++ (es.getD 0 [] ++ [59])
mutual
def stS:St->B->B
 | .mk k n es b c _,ind=>L0 k n (es.map exS) (blkS (Ql b ind) ind b.isEmpty) (blkS (Ql c ind) ind c.isEmpty) c.isEmpty
def Ql:List St->B->B
 | [],_=>[]
 | s :: r,ind=>ind ++ ([9] ++ (stS s (ind ++ [9]) ++ ([10] ++ Ql r ind)))
end
def slS(s:Sl):B:=s.name ++ ([58,32] ++ s.type)
def fnS(f:Px.Fn):B:=f.name ++ ([40] ++ (commasS (f.params.map slS) ++ ([41,58,32] ++ (f.result ++ ([32] ++ (blkS (Ql f.body []) [] f.body.isEmpty ++ [10]))))))
def ssS:List Sl->B
 | []=>[]
 | s :: r=>[115,116,97,116,101,32] ++ (slS s ++ ([59,10] ++ ssS r))
def fsS:List Px.Fn->B
 | []=>[]
 | f :: r=>(if f.on then [111,110,32] else [102,110,32]) ++ (fnS f ++ fsS r)
def prS(p:Pr):B:=[118,101,114,115,105,111,110,32] ++ (dg p.version ++ ([59,10] ++ (ssS p.states ++ fsS p.fns)))
end
section
open Px (TSim Ex St Sl Pr exT WfE WfP prT lowE lv opL opX dg)
open Lx (B Tok)
theorem U4{k:Nat}{t:B}(hk:k=1\/k=3)(h:Wf true k t m):m=0:=by
 have h1:=h.reads [] (λ c hc=>by simp at hc);obtain⟨y,r,e,_,_⟩:=h.head;rw[append_nil,e] at h1;rcases Ke h1 with h2 | h2
 .exact h2.2.1
 .have a0:k=1:=by rcases hk with h | h;exact h;exact absurd h h2.1
  subst a0;simp only[Lx.tokR] at h1;split at h1
  .unfold Lx.nameR at h1;split at h1
   .simp only[Lx.R.ok,Sum.inl.injEq,Prod.mk.injEq] at h1;exact h1.2.2.1.symm
   .simp[Lx.R.ok,Lx.R.bad] at h1
  split at h1
  .unfold Lx.numberR at h1;split at h1
   .simp[Lx.R.ok,Lx.R.bad] at h1
   split at h1 <;> simp[Lx.R.ok,Lx.R.bad] at h1
  split at h1
  .have:=Bk r.length r 1 [] 1 _ m _ (AD _) h1;omega
  .unfold Lx.markR at h1;split at h1 <;> simp[Lx.R.ok,Lx.R.bad] at h1
theorem Zf{b:B}{ts:List Tok}(h:Lx.lex true b=.inl ts):Px.AllV VW ts:=by
 unfold Lx.lex at h;split at h
 .simp at h
 .have hw:=Ao1 true b (b.length+1) 0 0 ts (by omega) (by omega) (by simpa using h);intro t ht;rcases hw t ht with⟨h5,_,_⟩ | hw
  .exact⟨λ h1=>by omega,λ h1=>by omega,λ h1=>by omega⟩
  .refine⟨λ h1=>?_,λ h1=>?_,λ h1=>?_⟩
   .rw[h1] at hw;have:=U4 (AI rfl) hw;rw[this] at hw;exact hw
   .rw[h1] at hw;exact hw
   .rw[h1] at hw;have:=U4 (AJ rfl) hw;rw[this] at hw;exact hw
theorem Sw{b:B}{p:Pr}(h:Px.parse b=.inl p):WfP VW p/\∃ts,Lx.lex true b=.inl ts/\(prT p).length<=ts.length/\ts.length<=4096:=by
 unfold Px.parse at h;rcases hl:Lx.lex true b with ts | x
 .rw[hl] at h;simp only at h;rcases hp:Px.program ts with⟨q,l'⟩ | x
  .rw[hp] at h;simp at h;subst h;obtain⟨h1,h2⟩:=Px.program_sm (Zf hl) hp;exact⟨h1,ts,rfl,h2,Ux hl⟩
  .rw[hp] at h;simp at h
 .rw[hl] at h;simp at h
end
section
namespace Px
open Lx (Tok B)
def IsTy(k:Nat)(y:B):Prop:=∃c,Ty k y c
end Px
end
section
open Px (Ex St Sl Pr exT WfE WfS Cg Kd WfF WfP Ly Ty IsTy lowE lv opL opX dg)
open Lx (B Tok)
inductive GE where
 | mk (kind op num:Int) (text:B) (args:List GE)
inductive GS where
 | mk (kind:Int) (name:B) (es:List GE) (body other:List GS)
structure GF where
 name:B
 on:Bool
 params:List (B × B)
 result:B
 body:List GS
structure GP where
 version:Int
 states:List (B × B)
 fns:List GF
instance:Inhabited GE:=⟨.mk 0 0 0 [] []⟩
def GE.k:GE->Int
 | .mk k _ _ _ _=>k
def GE.o:GE->Int
 | .mk _ o _ _ _=>o
def gL(o:Int):Nat:=if 0<=o then opL o.toNat else 0
def gName(t:B):Bool:=wordB t && !Px.reserved t
open Classical in
noncomputable def gType (y:B):Bool:=if IsTy 4 y then true else false
def Bo(n:Nat)(e:GE):Bool:=(e.k == 15 && decide (gL e.o<n)) || (decide (6<n) && (e.k == 13 || e.k == 14))
def gKS(k o n:Int)(t:B)(args:List GE)(xs:List B):Option B:=
 if k=1 then (if xs.length=0/\0<=n then some (dg n.toNat) else none)
 else if k=2 then (if xs.length=0/\0<=n/\n<=1 then some (if n=1 then [116,114,117,101] else [102,97,108,115,101]) else none)
 else if k=3 then (if xs.length=0/\plainB t=true then some (Ey t) else none)
 else if k=6 then (if xs.length=0/\gName t=true then some t else none)
 else if k=7 then (if gName t=true then some (t ++ 40 :: (commasS xs ++ [41])) else none)
 else if k=12 then (if xs.length=2 then some (withinS (Bo 7 (args.getD 0 default)) (xs.getD 0 []) ++ 91 :: (xs.getD 1 [] ++ [93])) else none)
 else if k=13 then (if xs.length=1 then some (45 :: withinS (Bo 6 (args.getD 0 default)) (xs.getD 0 [])) else none)
 else if k=14 then (if xs.length=1 then some (33 :: withinS (Bo 6 (args.getD 0 default)) (xs.getD 0 [])) else none)
 else if k=15 then (if xs.length=2/\gL o≠0 then some (withinS (Bo (lv o.toNat) (args.getD 0 default)) (xs.getD 0 []) ++ 32 :: (opX o.toNat ++ 32 :: withinS (Bo (gL o+1) (args.getD 1 default)) (xs.getD 1 []))) else none)
 else none
mutual
def gE:GE->Option B
 | .mk k o n t args=>match gEs args with
  | some xs=>gKS k o n t args xs
  | none=>none
def gEs:List GE->Option (List B)
 | []=>some []
 | e :: r=>match gE e,gEs r with
  | some x,some xs=>some (x :: xs)
  | _,_=>none
end
def gBlk(s:Option B)(ind:B)(none:Bool):Option B:=s.map λ s=>blkS s ind none
def gSK(k:Int)(n:B)(es:List GE)(b c:Option B)(none:Bool):Option B:=
 if k<1\/6<k\/es.length<1\/2<es.length\/(es.length=2/\k≠2) then .none
 else if k≠4/\k≠6/\gName n=false then .none
 else match gE (es.getD 0 default) with
  | .none=>.none
  | some x=>
   if k=1 then some ([108,101,116,32] ++ (n ++ ([32,61,32] ++ (x ++ [59]))))
   else if k=2 then (if es.length=1 then some ([115,101,116,32] ++ (n ++ ([32,61,32] ++ (x ++ [59])))) else (gE (es.getD 1 default)).map λ y=>[115,101,116,32] ++ (n ++ ([91] ++ (x ++ ([93,32,61,32] ++ (y ++ [59]))))))
   else if k=3 then some ([100,101,108,32] ++ (n ++ ([91] ++ (x ++ [93,59]))))
   else if k=6 then some ([114,101,116,32] ++ (x ++ [59]))
   else match b with
    | .none=>.none
    | some b=>
     if k=5 then some ([102,111,114,32] ++ (n ++ ([32,116,111,32] ++ (x ++ ([32] ++ b)))))
     else if none then some ([105,102,32] ++ (x ++ ([32] ++ b)))
     else c.map λ c=>[105,102,32] ++ (x ++ ([32] ++ (b ++ ([32,101,108,115,101,32] ++ c))))
mutual
def gSt:GS->B->Option B
 | .mk k n es b c,ind=>gSK k n es (gBlk (gSts b ind) ind b.isEmpty) (gBlk (gSts c ind) ind c.isEmpty) c.isEmpty
def gSts:List GS->B->Option B
 | [],_=>some []
 | s :: r,ind=>match gSt s (ind ++ [9]),gSts r ind with
  | some x,some y=>some (ind ++ ([9] ++ (x ++ ([10] ++ y))))
  | _,_=>none
end
noncomputable def gSl (s:B × B):Option B:=if gName s.1=true/\gType s.2=true then some (s.1 ++ ([58,32] ++ s.2)) else none
noncomputable def Oi:List (B × B)->Option (List B)
 | []=>some []
 | s :: r=>match gSl s,Oi r with
  | some x,some xs=>some (x :: xs)
  | _,_=>none
noncomputable def gFn (f:GF):Option B:=
 if gName f.name=true/\gType f.result=true then
  match Oi f.params,gBlk (gSts f.body []) [] f.body.isEmpty with
  | some ps,some b=>some ((if f.on then [111,110,32] else [102,110,32]) ++ (f.name ++ ([40] ++ (commasS ps ++ ([41,58,32] ++ (f.result ++ ([32] ++ (b ++ [10]))))))))
  | _,_=>none
 else none
noncomputable def gSs:List (B × B)->Option B
 | []=>some []
 | s :: r=>match gSl s,gSs r with
  | some x,some y=>some ([115,116,97,116,101,32] ++ (x ++ ([59,10] ++ y)))
  | _,_=>none
noncomputable def gFs:List GF->Option B
 | []=>some []
 | f :: r=>match gFn f,gFs r with
  | some x,some y=>some (x ++ y)
  | _,_=>none
noncomputable def gPr (p:GP):Option B:=
 if 0<=p.version then
  match gSs p.states,gFs p.fns with
  | some x,some y=>some ([118,101,114,115,105,111,110,32] ++ (dg p.version.toNat ++ ([59,10] ++ (x ++ y))))
  | _,_=>none
 else none
noncomputable def Mm (form:Nat) (p:GP):B × Nat:=
 match gPr p with
 | none=>([],form)
 | some s=>if 16384<s.length then ([],3) else (s,0)
/- What was read,aS0 such a program. -/
mutual
def L1:Ex->GE
 | .mk k o n t args _=>.mk k o n t (B5 args)
def B5:List Ex->List GE
 | []=>[]
 | e :: r=>L1 e :: B5 r
end
mutual
def Oj:St->GS
 | .mk k n es b c _=>.mk k n (B5 es) (ofSts b) (ofSts c)
def ofSts:List St->List GS
 | []=>[]
 | s :: r=>Oj s :: ofSts r
end
def Ol(s:Sl):B × B:=(s.name,s.type)
def ofFn(f:Px.Fn):GF:=⟨f.name,f.on,f.params.map Ol,f.result,ofSts f.body⟩
def ofPr(p:Pr):GP:=⟨p.version,p.states.map Ol,p.fns.map ofFn⟩
theorem Mn:∀l,B5 l=l.map L1
 | []=>by simp[B5]
 | e :: r=>by simp[B5,Mn r]
theorem Mo:∀l,ofSts l=l.map Oj
 | []=>by simp[ofSts]
 | e :: r=>by simp[ofSts,Mo r]
theorem gL_nat(o:Nat):gL (o:Int)=opL o:=by simp[gL]
theorem Om(k x:Nat):((k:Int) == (x:Int))=(k == x):=by
 rcases h:(k == x) with _ | _
 .simp at h ⊢;omega
 .simp at h ⊢;omega
theorem Jl(n:Nat)(e:Ex):Bo n (L1 e)=lowE n e:=by
 match e with
 | .mk k o m t a p=>
  rw[L1];show ((((k:Int) == ((15:Nat):Int)) && decide (gL (o:Int)<n)) || (decide (6<n) && (((k:Int) == ((13:Nat):Int)) || ((k:Int) == ((14:Nat):Int)))))=(((k == 15) && decide (opL o<n)) || (decide (6<n) && ((k == 13) || (k == 14))));rw[Om,Om,Om,gL_nat]
theorem Ho{t:B}(h:VW 1 t m):wordB t=true:=by
 have h1:=h.reads [] (λ c hc=>by simp at hc);obtain⟨y,r,e,_,_⟩:=h.head;have hw:Qj 1 t=t:=rfl;rw[hw] at e h1;rw[append_nil] at h1;rw[e] at h1 ⊢;simp only[Lx.tokR] at h1;split at h1
 .rename_i hl;unfold Lx.nameR at h1;split at h1
  .rename_i h16;simp only[Lx.R.ok,Sum.inl.injEq,Prod.mk.injEq] at h1;rw[h1.2.1] at h16;simp only[wordB,Bool.and_eq_true,decide_eq_true_eq];refine⟨h16,hl,?_⟩;rw[all_eq_true];intro c hc;rw[<-h1.2.1] at hc;exact Lx.tw_mem c hc
  .simp[Lx.R.ok,Lx.R.bad] at h1
 split at h1
 .unfold Lx.numberR at h1;split at h1
  .simp[Lx.R.ok,Lx.R.bad] at h1
  split at h1 <;> simp[Lx.R.ok,Lx.R.bad] at h1
 split at h1
 .have:=Bk r.length r 1 [] 1 _ m _ (AD _) h1;omega
 .unfold Lx.markR at h1;split at h1 <;> simp[Lx.R.ok,Lx.R.bad] at h1
theorem C9{t:B}(h:Ly VW t):gName t=true:=by simp[gName,Ho h.2,h.1]
theorem Id{t:B}(h:VW 3 t m):plainB t=true:=by
 have h1:=h.reads [] (λ c hc=>by simp at hc);obtain⟨y,r,e,_,_⟩:=h.head;rw[append_nil,e] at h1;rcases Ke h1 with h2 | h2
 .exact h2.2.2
 .exact absurd rfl h2.1
mutual
theorem Gp:∀e:Ex,WfE VW e->gE (L1 e)=some (exS e)
 | .mk k o n t args p,hw=>by
  rw[WfE] at hw;obtain⟨hf,hs⟩:=hw;rw[L1,gE,Zg args hs];simp only;have a0:(Oh args).length=args.length:=by rw[Qk];simp
  rw[exS];rcases hf with h | h | h | h | h | h | h | h
  .obtain⟨rfl,rfl,rfl,hl,_⟩:=h;simp[gKS,Lz,a0,hl]
  .obtain⟨rfl,rfl,rfl,hl,hn⟩:=h;rcases (show n=0\/n=1 by omega) with rfl | rfl <;> simp[gKS,Lz,a0,hl]
  .obtain⟨rfl,rfl,rfl,hl,hv⟩:=h;simp[gKS,Lz,a0,hl,Id hv]
  .obtain⟨rfl,rfl,rfl,hl,hr,hv⟩:=h;simp[gKS,Lz,a0,hl,C9 ⟨hr,hv⟩]
  .obtain⟨rfl,rfl,rfl,hr,hv⟩:=h;simp[gKS,Lz,C9 ⟨hr,hv⟩]
  .obtain⟨rfl,rfl,rfl,rfl,hl⟩:=h
   match args,hl,a0 with
   | [a,b],_,a0=>
    simp[gKS,Lz,a0,B5,Jl]
  .obtain⟨hk,rfl,rfl,rfl,hl⟩:=h
   match args,hl,a0 with
   | [a],_,a0=>
    rcases hk with rfl | rfl
    .simp[gKS,Lz,a0,B5,Jl]
    .simp[gKS,Lz,a0,B5,Jl]
  .obtain⟨rfl,h1,h2,rfl,rfl,hl⟩:=h
   match args,hl,a0 with
   | [a,b],_,a0=>
    have hp:=(Px.opL_pos h1 h2).1;have hg:gL (o:Int)=opL o:=by simp[gL]
    have a3:opL o≠0:=by omega
    simp[gKS,Lz,a0,B5,Jl,hg,a3]
theorem Zg:∀l:List Ex,Px.WfEs VW l->gEs (B5 l)=some (Oh l)
 | [],_=>by simp[B5,gEs,Oh]
 | e :: r,hw=>by
  rw[Px.WfEs] at hw;rw[B5,gEs,Gp e hw.1,Zg r hw.2,Oh]
end
theorem G1(b:List St):(ofSts b).isEmpty=b.isEmpty:=by
 rcases b with _ | ⟨s,r⟩ <;> simp[ofSts]
theorem Ao2{k:Nat}{n:B}{es:List Ex}{b c:List St}{bs cs:B}(hf:Px.FormS VW k n es.length b c)(he:∀e∈es,WfE VW e):gSK k n (B5 es) (some bs) (some cs) c.isEmpty=some (L0 k n (es.map exS) bs cs c.isEmpty):=by
 rcases hf with h | h | h | h | h | h
 .obtain⟨rfl,hn,hl,rfl,rfl⟩:=h
  match es,hl,he with
  | [x],_,he=>simp[gSK,L0,B5,C9 hn,Gp x (he x (by simp))]
 .obtain⟨rfl,hn,hl,rfl,rfl⟩:=h
  match es,hl,he with
  | [x],_,he=>simp[gSK,L0,B5,C9 hn,Gp x (he x (by simp))]
  | [y,x],_,he=>simp[gSK,L0,B5,C9 hn,Gp y (he y (by simp)),Gp x (he x (by simp))]
 .obtain⟨rfl,hn,hl,rfl,rfl⟩:=h
  match es,hl,he with
  | [x],_,he=>simp[gSK,L0,B5,C9 hn,Gp x (he x (by simp))]
 .obtain⟨rfl,rfl,hl⟩:=h
  match es,hl,he with
  | [x],_,he=>
   rcases c with _ | ⟨c1,c2⟩
   .simp[gSK,L0,B5,Gp x (he x (by simp))]
   .simp[gSK,L0,B5,Gp x (he x (by simp))]
 .obtain⟨rfl,hn,hl,rfl⟩:=h
  match es,hl,he with
  | [x],_,he=>simp[gSK,L0,B5,C9 hn,Gp x (he x (by simp))]
 .obtain⟨rfl,rfl,hl,rfl,rfl⟩:=h
  match es,hl,he with
  | [x],_,he=>simp[gSK,L0,B5,Gp x (he x (by simp))]
mutual
theorem Ao3:∀(s:St) (ind:B),WfS VW s->gSt (Oj s) ind=some (stS s ind)
 | .mk k n es b c p,ind,hw=>by
  rw[WfS] at hw;obtain⟨hf,he,hb,hc⟩:=hw;rw[Oj,gSt,Jm b ind hb,Jm c ind hc,G1,G1,stS];exact Ao2 hf he
theorem Jm:∀(l:List St) (ind:B),Cg VW l->gSts (ofSts l) ind=some (Ql l ind)
 | [],ind,_=>by simp[ofSts,gSts,Ql]
 | s :: r,ind,hw=>by
  rw[Cg] at hw;rw[ofSts,gSts,Ao3 s _ hw.1,Jm r ind hw.2,Ql]
end
theorem Zh{s:Sl}(h:Kd VW s):gSl (Ol s)=some (slS s):=by
 obtain⟨hn,c,hc⟩:=h;have ht:gType s.type=true:=by unfold gType;rw[if_pos ⟨c,hc⟩]
 simp[gSl,Ol,slS,C9 hn,ht]
theorem U5:∀{l:List Sl},(∀s∈l,Kd VW s)->Oi (l.map Ol)=some (l.map slS)
 | [],_=>by simp[Oi]
 | s :: r,h=>by
  rw[map_cons,Oi,Zh (h s (by simp)),U5 (λ x hx=>h x (by simp[hx]))];simp
theorem Zi:∀{l:List Sl},(∀s∈l,Kd VW s)->gSs (l.map Ol)=some (ssS l)
 | [],_=>by simp[gSs,ssS]
 | s :: r,h=>by
  rw[map_cons,gSs,Zh (h s (by simp)),Zi (λ x hx=>h x (by simp[hx])),ssS]
theorem Ao4{f:Px.Fn}(h:WfF VW f):gFn (ofFn f)=some ((if f.on then [111,110,32] else [102,110,32]) ++ fnS f):=by
 obtain⟨hn,hp,⟨c,hc⟩,hb,hd⟩:=h;have ht:gType f.result=true:=by unfold gType;rw[if_pos ⟨c,hc⟩]
 have e1:Oi (ofFn f).params=some (f.params.map slS):=U5 hp;have e2:gBlk (gSts (ofFn f).body []) [] (ofFn f).body.isEmpty=some (blkS (Ql f.body []) [] f.body.isEmpty):=by
  show gBlk (gSts (ofSts f.body) []) [] (ofSts f.body).isEmpty=_;rw[Jm f.body [] hb,G1];rfl
 rw[gFn,if_pos (show gName (ofFn f).name=true/\gType (ofFn f).result=true from ⟨C9 hn,ht⟩),e1,e2];rfl
theorem Zj:∀{l:List Px.Fn},(∀f∈l,WfF VW f)->gFs (l.map ofFn)=some (fsS l)
 | [],_=>by simp[gFs,fsS]
 | f :: r,h=>by
  rw[map_cons,gFs,Ao4 (h f (by simp)),Zj (λ x hx=>h x (by simp[hx])),fsS];simp
theorem Ao5{p:Pr}(h:WfP VW p):gPr (ofPr p)=some (prS p):=by
 obtain⟨_,hs,hf⟩:=h;have e1:gSs (ofPr p).states=some (ssS p.states):=Zi hs;have e2:gFs (ofPr p).fns=some (fsS p.fns):=Zj hf;rw[gPr,if_pos (show 0<=(ofPr p).version by show (0:Int)<=(p.version:Int);omega),e1,e2];rfl
end
section
open Go.RowKit
mutual
def IsGE(B:AS)(w:World):GE->List Value->Prop
 | .mk k o n t args,cs=>∃(x p:Int) (y:ByteArray) (sl:Value) (row:AR),cs=[iv k,iv o,iv n,.string ⟨t.toArray⟩,iv x,.string y,sl,iv p]/\SlRow B w 8 sl args.length row/\B0 B w args row
def B0(B:AS)(w:World):List GE->List Value->Prop
 | [],cs=>cs=[]
 | e :: r,cs=>∃c1 c2,cs=c1 ++ c2/\IsGE B w e c1/\B0 B w r c2
end
mutual
def IsGS(B:AS)(w:World):GS->List Value->Prop
 | .mk k n es b c,cs=>∃(x y p:Int) (f:Bool) (s1 s2 s3:Value) (r1 r2 r3:AR),cs=[iv k,.string ⟨n.toArray⟩,iv x,.bool f,iv y,s1,s2,s3,iv p]/\SlRow B w 8 s1 es.length r1/\B0 B w es r1/\SlRow B w 9 s2 b.length r2/\Bz B w b r2/\SlRow B w 9 s3 c.length r3/\Bz B w c r3
def Bz(B:AS)(w:World):List GS->List Value->Prop
 | [],cs=>cs=[]
 | e :: r,cs=>∃c1 c2,cs=c1 ++ c2/\IsGS B w e c1/\Bz B w r c2
end
def Qm(s:List UInt8 × List UInt8)(cs:AR):Prop:=∃p:Int,cs=[.string ⟨s.1.toArray⟩,.string ⟨s.2.toArray⟩,iv p]
def I1:List (List UInt8 × List UInt8)->List Value->Prop
 | [],cs=>cs=[]
 | e :: r,cs=>∃c1 c2,cs=c1 ++ c2/\Qm e c1/\I1 r c2
def Hp(B:AS)(w:World)(l:List (List UInt8 × List UInt8))(v:Value):Prop:=∃row,SlRow B w 3 v l.length row/\I1 l row
def B1(B:AS)(w:World)(l:List GS)(v:Value):Prop:=∃row,SlRow B w 9 v l.length row/\Bz B w l row
def Gi(B:AS)(w:World)(f:GF)(cs:AR):Prop:=
 ∃(ps bs:Value) (p:Int),cs=[.string ⟨f.name.toArray⟩,.bool f.on,ps,.string ⟨f.result.toArray⟩,sZ,bs,iv p]/\Hp B w f.params ps/\B1 B w f.body bs
def Dz(B:AS)(w:World):List GF->List Value->Prop
 | [],cs=>cs=[]
 | e :: r,cs=>∃c1 c2,cs=c1 ++ c2/\Gi B w e c1/\Dz B w r c2
def Kf(B:AS)(w:World)(l:List GF)(v:Value):Prop:=∃row,SlRow B w 7 v l.length row/\Dz B w l row
def On(B:AS)(w:World)(p:GP)(v:Value):Prop:=∃ss fs,v=.agg #[iv p.version,ss,fs]/\Hp B w p.states ss/\Kf B w p.fns fs
mutual
theorem IsGE.since{B:AS}{w w':World}(s:Since B w w'):∀{e:GE} {cs:AR},IsGE B w e cs->IsGE B w' e cs
 | .mk k o n t args,cs,h=>by
  rw[IsGE] at h ⊢;obtain⟨x,p,y,sl,row,hc,hr,ha⟩:=h;exact⟨x,p,y,sl,row,hc,hr.since s,B0.since s ha⟩
theorem B0.since{B:AS}{w w':World}(s:Since B w w'):∀{l:List GE} {cs:AR},B0 B w l cs->B0 B w' l cs
 | [],cs,h=>by rw[B0] at h ⊢;exact h
 | e :: r,cs,h=>by
  rw[B0] at h ⊢;obtain⟨c1,c2,hc,h1,h2⟩:=h;exact⟨c1,c2,hc,IsGE.since s h1,B0.since s h2⟩
end
mutual
theorem IsGS.since{B:AS}{w w':World}(s:Since B w w'):∀{e:GS} {cs:AR},IsGS B w e cs->IsGS B w' e cs
 | .mk k n es b c,cs,h=>by
  rw[IsGS] at h ⊢;obtain⟨x,y,p,f,s1,s2,s3,r1,r2,r3,hc,a1,a2,a3,a4,a5,a6⟩:=h;exact⟨x,y,p,f,s1,s2,s3,r1,r2,r3,hc,a1.since s,a2.since s,a3.since s,Bz.since s a4,a5.since s,Bz.since s a6⟩
theorem Bz.since{B:AS}{w w':World}(s:Since B w w'):∀{l:List GS} {cs:AR},Bz B w l cs->Bz B w' l cs
 | [],cs,h=>by rw[Bz] at h ⊢;exact h
 | e :: r,cs,h=>by
  rw[Bz] at h ⊢;obtain⟨c1,c2,hc,h1,h2⟩:=h;exact⟨c1,c2,hc,IsGS.since s h1,Bz.since s h2⟩
end
theorem Hp.since{B:AS}(s:Since B w w'){l:List (List UInt8 × List UInt8)}(h:Hp B w l v):Hp B w' l v:=by
 obtain⟨row,h1,h2⟩:=h;exact⟨row,h1.since s,h2⟩
theorem B1.since{B:AS}(s:Since B w w'){l:List GS}(h:B1 B w l v):B1 B w' l v:=by
 obtain⟨row,h1,h2⟩:=h;exact⟨row,h1.since s,h2.since s⟩
theorem Gi.since{B:AS}(s:Since B w w'){f:GF}(h:Gi B w f cs):Gi B w' f cs:=by
 obtain⟨ps,bs,p,h1,h2,h3⟩:=h;exact⟨ps,bs,p,h1,h2.since s,h3.since s⟩
theorem Dz.since{B:AS}{w w':World}(s:Since B w w'):∀{l:List GF} {cs:AR},Dz B w l cs->Dz B w' l cs
 | [],cs,h=>h
 | e :: r,cs,h=>by
  obtain⟨c1,c2,hc,h1,h2⟩:=h;exact⟨c1,c2,hc,h1.since s,Dz.since s h2⟩
theorem Kf.since{B:AS}(s:Since B w w'){l:List GF}(h:Kf B w l v):Kf B w' l v:=by
 obtain⟨row,h1,h2⟩:=h;exact⟨row,h1.since s,h2.since s⟩
theorem On.since{B:AS}(s:Since B w w'){p:GP}(h:On B w p v):On B w' p v:=by
 obtain⟨ss,fs,hv,h1,h2⟩:=h;exact⟨ss,fs,hv,h1.since s,h2.since s⟩
theorem IsGE.len{B:AS}{e:GE}(h:IsGE B w e cs):cs.length=8:=by
 cases e;rw[IsGE] at h;obtain⟨x,p,y,sl,row,hc,_⟩:=h;rw[hc];rfl
theorem IsGS.len{B:AS}{e:GS}(h:IsGS B w e cs):cs.length=9:=by
 cases e;rw[IsGS] at h;obtain⟨x,y,p,f,s1,s2,s3,r1,r2,r3,hc,_⟩:=h;rw[hc];rfl
theorem Qm.len{e:List UInt8 × List UInt8}(h:Qm e cs):cs.length=3:=by
 obtain⟨p,hc⟩:=h;rw[hc];rfl
theorem Gi.len{B:AS}{e:GF}(h:Gi B w e cs):cs.length=7:=by
 obtain⟨ps,bs,p,hc,_⟩:=h;rw[hc];rfl
theorem Hr{α:Type}{sz:Nat}{P:α->List Value->Prop}{A:List α->List Value->Prop}(a3:∀{e cs},P e cs->cs.length=sz)(a0:∀{e r cs},A (e :: r) cs->∃c1 c2,cs=c1 ++ c2/\P e c1/\A r c2):∀{l:List α} {row:AR} {i:Nat} {e:α},A l row->l[i]?=some e->∃cs,P e cs/\∀j,j<sz->row[i*sz+j]?=cs[j]?
 | [],row,i,e,h,hi=>by simp at hi
 | a :: r,row,0,e,h,hi=>by
  obtain⟨c1,c2,hc,h1,h2⟩:=a0 h;simp at hi;subst hi;exact⟨c1,h1,λ j hj=>by rw[hc,List.getElem?_append_left (by have:=a3 h1;omega)];simp⟩
 | a :: r,row,i+1,e,h,hi=>by
  obtain⟨c1,c2,hc,h1,h2⟩:=a0 h;obtain⟨cs,k1,k2⟩:=Hr a3 a0 h2 (by simpa using hi);refine⟨cs,k1,λ j hj=>?_⟩;have hl:=a3 h1;have hm:(i+1)*sz=i*sz+sz:=by rw[Nat.add_mul,Nat.one_mul]
  rw[hc,List.getElem?_append_right (by omega),<-k2 j hj];congr 1;omega
theorem B0.cons{B:AS}{e:GE}{r:List GE}(h:B0 B w (e :: r) cs):∃c1 c2,cs=c1 ++ c2/\IsGE B w e c1/\B0 B w r c2:=by rw[B0] at h;exact h
theorem Bz.cons{B:AS}{e:GS}{r:List GS}(h:Bz B w (e :: r) cs):∃c1 c2,cs=c1 ++ c2/\IsGS B w e c1/\Bz B w r c2:=by rw[Bz] at h;exact h
theorem B0.get{B:AS}{l:List GE}{row:AR}{e:GE}(h:B0 B w l row)(hi:l[i]?=some e):∃cs,IsGE B w e cs/\∀j,j<8->row[i*8+j]?=cs[j]?:=
 Hr (P:=IsGE B w) (A:=B0 B w) IsGE.len B0.cons h hi
theorem Bz.get{B:AS}{l:List GS}{row:AR}{e:GS}(h:Bz B w l row)(hi:l[i]?=some e):∃cs,IsGS B w e cs/\∀j,j<9->row[i*9+j]?=cs[j]?:=
 Hr (P:=IsGS B w) (A:=Bz B w) IsGS.len Bz.cons h hi
theorem I1.get{l:List (List UInt8 × List UInt8)}{row:AR}{e:List UInt8 × List UInt8}(h:I1 l row)(hi:l[i]?=some e):∃cs,Qm e cs/\∀j,j<3->row[i*3+j]?=cs[j]?:=
 Hr (P:=Qm) (A:=I1) Qm.len (λ h=>h) h hi
theorem Dz.get{B:AS}{l:List GF}{row:AR}{e:GF}(h:Dz B w l row)(hi:l[i]?=some e):∃cs,Gi B w e cs/\∀j,j<7->row[i*7+j]?=cs[j]?:=
 Hr (P:=Gi B w) (A:=Dz B w) Gi.len (λ h=>h) h hi
/- What was read lies so. -/
theorem Hs(l:List Px.Ex):(B5 l).length=l.length:=by rw[Mn];simp
theorem E1(l:List Px.St):(ofSts l).length=l.length:=by rw[Mo];simp
mutual
theorem IsEx.any{B:AS}{w:World}:∀{e:Px.Ex} {cs:AR},IsEx B w e cs->IsGE B w (L1 e) cs
 | .mk k o n t args p,cs,h=>by
  rw[IsEx] at h;rw[L1,IsGE];obtain⟨sl,row,hc,hr,ha⟩:=h;exact⟨0,p,⟨#[]⟩,sl,row,hc,by rw[Hs];exact hr,Aj.any ha⟩
theorem Aj.any{B:AS}{w:World}:∀{l:List Px.Ex} {cs:AR},Aj B w l cs->B0 B w (B5 l) cs
 | [],cs,h=>by rw[Aj] at h;rw[B5,B0];exact h
 | e :: r,cs,h=>by
  rw[Aj] at h;rw[B5,B0];obtain⟨c1,c2,hc,h1,h2⟩:=h;exact⟨c1,c2,hc,IsEx.any h1,Aj.any h2⟩
end
mutual
theorem IsSt.any{B:AS}{w:World}:∀{e:Px.St} {cs:AR},IsSt B w e cs->IsGS B w (Oj e) cs
 | .mk k n es b c p,cs,h=>by
  rw[IsSt] at h;rw[Oj,IsGS];obtain⟨s1,s2,s3,r1,r2,r3,hc,a1,a2,a3,a4,a5,a6⟩:=h;exact⟨0,0,p,false,s1,s2,s3,r1,r2,r3,hc,by rw[Hs];exact a1,a2.any,by rw[E1];exact a3,As.any a4,by rw[E1];exact a5,As.any a6⟩
theorem As.any{B:AS}{w:World}:∀{l:List Px.St} {cs:AR},As B w l cs->Bz B w (ofSts l) cs
 | [],cs,h=>by rw[As] at h;rw[ofSts,Bz];exact h
 | e :: r,cs,h=>by
  rw[As] at h;rw[ofSts,Bz];obtain⟨c1,c2,hc,h1,h2⟩:=h;exact⟨c1,c2,hc,IsSt.any h1,As.any h2⟩
end
theorem I2:∀l:List Px.Sl,I1 (l.map Ol) (l.flatMap Bi)
 | []=>rfl
 | s :: r=>⟨Bi s,r.flatMap Bi,by simp,⟨s.place,rfl⟩,I2 r⟩
theorem Dv.any{B:AS}{l:List Px.Sl}(h:Dv B w l v):Hp B w (l.map Ol) v:=
 ⟨_,by rw[length_map];exact h,I2 l⟩
theorem Bg.any{B:AS}{l:List Px.St}(h:Bg B w l v):B1 B w (ofSts l) v:=by
 obtain⟨row,h1,h2⟩:=h;exact⟨row,by rw[E1];exact h1,h2.any⟩
theorem Br.any{B:AS}{w:World}:∀{l:List Px.Fn} {cs:AR},Br B w l cs->Dz B w (l.map ofFn) cs
 | [],cs,h=>h
 | e :: r,cs,h=>by
  obtain⟨c1,c2,hc,⟨ps,bs,h1,h2,h3⟩,h5⟩:=h;exact⟨c1,c2,hc,⟨ps,bs,e.place,h1,h2.any,h3.any⟩,Br.any h5⟩
theorem Ec.any{B:AS}{p:Px.Pr}(h:Ec B w p v):On B w (ofPr p) v:=by
 obtain⟨ss,fs,hv,h1,row,h2,h3⟩:=h;exact⟨ss,fs,hv,h1.any,row,by rw[show (ofPr p).fns.length=p.fns.length from by simp[ofPr]];exact h2,h3.any⟩
structure FW(base b:Nat)(w w':World):Prop where
 below:Below base w w'
 kept:Lib.OthersKept 5 (some b) w w'
theorem FW.refl(base b:Nat)(w:World):FW base b w w:=⟨AF _ _,Lib.OthersKept.refl _ _ _⟩
abbrev AY:=@FW.refl
theorem FW.trans{base:Nat}(h:FW base b w w1)(k:FW base b w1 w2):FW base b w w2:=⟨h.below.trans k.below,h.kept.trans k.kept⟩
theorem FW.size{base:Nat}(h:FW base b w w1):w.heap.size<=w1.heap.size:=h.below.size
theorem FW.of_below{base:Nat}(h:Below w.heap.size w w1)(hb:base<=w.heap.size):FW base b w w1:=
 ⟨h.mono hb,λ k o hk _ _=>(h.block k (AB hk).1).trans hk⟩
theorem FW.alloc{base:Nat}(h:FW base b w w1)(hb:base<=w1.heap.size)(o:Obj):FW base b w (w1.alloc o):=⟨h.below.alloc hb o,h.kept.alloc o⟩
theorem FW.set{base:Nat}(h:FW base b w w1)(hb:base<=b)(j:Nat)(v:Value):FW base b w (w1.setCell ⟨b,j,none⟩ v):=⟨h.below.setCell (p:=⟨b,j,none⟩) hb v,h.kept.setCell ⟨b,j,none⟩ rfl v⟩
theorem FW.drewN{base:Nat}(h:FW base b w w1)(n:Nat):FW base b w (w1.drewN n):=⟨h.below.trans ⟨rfl,rfl,rfl,AD _,λ _ _=>rfl⟩,λ k o hk hb ho=>h.kept k o hk hb ho⟩
theorem FW.from_drewN{base:Nat}(n:Nat)(h:FW base b (w.drewN n) w1):FW base b w w1:=((AY base b w).drewN n).trans h
abbrev AZ:=@FW.from_drewN
theorem FW.grown{base:Nat}{n:Nat}(h:FW base b w w1)(hg:w1.grownBy w2 v.ownBlock)(a0:w1.ownsRowF base 5 1 v n xs)(hb:base<=w1.heap.size):FW base b w w2:=by
 refine⟨h.below.grown hg hb (λ k hk=>(a0.lt k hk).1),h.kept.grown hg λ g hgr=>?_⟩;rcases a0.2 with⟨rfl,_⟩ | ⟨g',cap,cur,fz,rfl,_,a3,_⟩
 .simp[Value.ownBlock] at hgr
 .simp[Value.ownBlock] at hgr;subst hgr;exact⟨cur,fz,a3⟩
theorem FW.block{base:Nat}(h:FW base b w w1){k:Nat}{cs:Array Value}{t:TypeId}{fz:Nat × Nat}(hk:w.heap[k]?=some (.cells cs t fz))(hb:k≠b)(ht:t≠5):w1.heap[k]?=some (.cells cs t fz):=
 h.kept k _ hk (by simpa using hb) (λ c f e=>ht (by injection e))
theorem FW.since{base:Nat}(h:FW base b w w1):Since (λ k=>k<base) w w1:=⟨h.size,λ k h1 _=>h.below.block k h1⟩
abbrev Ah2(p v:Value)(tabs:Nat):Obj:=.cells #[p,v,iv tabs] 84 (0,0)
abbrev Bh(b:Nat):Value:=pt b 0
def Tb(base:Nat)(w:World):Prop:=Lib.TabBelow prog base w "internal/strconv.uint64pow10" .u64 Lib.pow10Tab
theorem Tb.mono{base:Nat}(h:Tb base w)(k:Below base w w'):Tb base w':=λ w2 h2=>h w2 (k.trans h2)
structure Wr(base b:Nat)(l:AQ)(tabs:Nat)(w:World):Prop where
 le:base<=b
 tab:Tb base w
 blk:∃p v,(p=.pointer none\/p=Bh b)/\w.heap[b]?=some (Ah2 p v tabs)/\w.ownsRowF base 5 1 v l.length (Lib.byteCells l)
theorem Wr.lt{base:Nat}{l:AQ}{tabs:Nat}(h:Wr base b l tabs w):b<w.heap.size:=by
 obtain⟨_,_,p,v,_,hb,_⟩:=h;exact (AB hb).1
theorem Wr.base{base b:Nat}{l:AQ}{tabs:Nat}{w:World}(h:Wr base b l tabs w):base<=w.heap.size:=by have:=h.le;have:=h.lt;omega
theorem Ez{base n:Nat}{p:Value}{tabs:Nat}(hb:w.heap[b]?=some (Ah2 p v tabs)){v':Value}(a0:w.ownsRowF base 5 1 v' n xs):v'.ownBlock≠some b:=by
 rcases a0.2 with⟨rfl,_⟩ | ⟨g',cap,cur,fz,rfl,_,a3,_⟩
 .simp[Value.ownBlock]
 .simp only[Value.ownBlock];intro e;simp only[Option.some.injEq] at e;subst e;rw[hb] at a3;simp at a3
theorem C8{base n:Nat}(a0:w.ownsRowF base 5 1 v n xs)(h:∀k,v.ownBlock=some k->w'.heap[k]?=w.heap[k]?):w'.ownsRowF base 5 1 v n xs:=by
 obtain⟨h1,h2⟩:=a0;refine⟨h1,?_⟩;rcases h2 with h2 | ⟨g',cap,cur,fz,rfl,r1,a3,r⟩
 .exact AI h2
 .exact AJ ⟨g',cap,cur,fz,rfl,r1,(h g' (by simp[Value.ownBlock])).trans a3,r⟩
theorem Wr.call{base:Nat}{l:AQ}{tabs:Nat}(h:Wr base b l tabs w)(k:Below w.heap.size w w'):Wr base b l tabs w':=by
 have a0:=h.lt;obtain⟨h0,ht,p,v,hp,hb,ho⟩:=h;exact⟨h0,ht.mono (k.mono (by omega)),p,v,hp,(k.block b a0).trans hb,C8 ho λ g hg=>k.block g (ho.lt g hg).2⟩
theorem Wr.alloc{base:Nat}{l:AQ}{tabs:Nat}(h:Wr base b l tabs w)(o:Obj):Wr base b l tabs (w.alloc o):=h.call ((AF _ _).alloc (AD _) o)
theorem Wr.drew{base:Nat}{l:AQ}{tabs:Nat}(h:Wr base b l tabs w):Wr base b l tabs w.drew:=h.call ⟨rfl,rfl,rfl,AD _,λ _ _=>rfl⟩
theorem Wr.tabs{base b:Nat}{l:AQ}{tabs:Nat}{w:World}(h:Wr base b l tabs w)(n:Nat):Wr base b l n (w.setCell ⟨b,2,none⟩ (iv n)):=by
 have a0:=h.lt;obtain⟨h0,ht,p,v,hp,hb,ho⟩:=h;refine⟨h0,ht.mono ((AF _ _).setCell (p:=⟨b,2,none⟩) h0 _),p,v,hp,by simp[World.setCell,Array.getElem?_modify,hb],C8 ho λ g hg=>?_⟩;exact AG _ _ _ _ (λ e=>Ez hb ho (by rw[hg,e]))
theorem Wr.cells{base:Nat}{l:AQ}{tabs:Nat}(h:Wr base b l tabs w):w.cell? ⟨b,2,none⟩=some (iv tabs)/\w.frozen? ⟨b,2,none⟩=false:=by
 obtain⟨_,_,p,v,_,hb,_⟩:=h;obtain⟨_,_,h2,_,_,h5⟩:=Ag hb;exact⟨h2,h5⟩
theorem Ob(b:Nat)(w:World)(h0:w.cell? ⟨b,0,none⟩=some (.pointer none))(a3:w.shape? b=some (84,3))(a5:w.frozen? ⟨b,0,none⟩=false) :
  AA 123 #[Bh b] w λ e w'=>e=.returned (.tuple #[])/\w'=w.setCell ⟨b,0,none⟩ (Bh b):=by
 obtain⟨j,hj,a4⟩:=Option.map_eq_some_iff.1 (show (prog.info? 82).map (·.size)=some 2 by kernel_rfl)
 have a0:liesAt prog prog.depth 84 (3 / prog.cellsOf 84) 0 82 1=true:=by kernel_rfl
 go_enter func123,ntmps123;go_wp2;rw[Lib.run_to_unsafe w ⟨b,0,none⟩ underlying80 underlying165 hj (by rw[a4];decide) a3 (Nat.zero_lt_succ 2)];simp only[Result.andThen];rw[Oper.upon_value];go_wp2;rw[run_callFunc_extern func151 (by kernel_rfl) (by kernel_rfl) (by kernel_rfl) (e:=Extern.AbiNoEscape.same) (by kernel_rfl)];rw[Lib.run_noEscape];simp only[Result.andThen];rw[Oper.upon_value];go_wp2;rw[Lib.run_from_unsafe w ⟨b,0,none⟩ underlying165 underlying80 hj a3 a0];simp only[Result.andThen];rw[Oper.upon_value];go_wp2
 go_end0
 exact⟨rfl,rfl⟩
theorem Sr{base:Nat}{l:AQ}{tabs:Nat}(h:Wr base b l tabs w) :
  AA 123 #[Bh b] w λ e w'=>e=.returned (.tuple #[])/\(∃v,w'.heap[b]?=some (Ah2 (Bh b) v tabs)/\w'.ownsRowF base 5 1 v l.length (Lib.byteCells l))/\FW base b w w':=by
 obtain⟨h0,ht,p,v,hp,hb,ho⟩:=h;rcases hp with rfl | rfl
 .obtain⟨c0,_,_,f0,_,_⟩:=Ag hb;refine (Ob b w c0 (by simp[World.shape?,hb]) f0).mono ?_;rintro e w' ⟨rfl,rfl⟩;refine⟨rfl,⟨v,by simp[World.setCell,Array.getElem?_modify,hb],C8 ho λ g hg=>?_⟩,(AY _ _ _).set h0 0 _⟩;exact AG _ _ _ _ (λ e=>Ez hb ho (by rw[hg,e]))
 .obtain⟨c0,_,_,f0,_,_⟩:=Ag hb;refine (Jy b w c0).mono ?_;rintro e w' ⟨rfl,rfl⟩;exact⟨rfl,⟨v,hb,ho⟩,AY _ _ _⟩
theorem Kc(s:ByteArray):Lib.strCells s=Lib.byteCells s.data.toList:=by
 simp[Lib.strCells,Lib.byteCells]
theorem Lw(a c:AQ):Lib.byteCells (a ++ c)=Lib.byteCells a ++ Lib.byteCells c:=by simp[Lib.byteCells]
theorem fwrite_any{base:Nat}{l:AQ}{tabs:Nat}(h:Wr base b l tabs w)(s:ByteArray)(ad:l.length+s.size<=140737488355328) :
  AA 88 #[Bh b,.string s] w λ e w'=>e=.returned (.tuple #[iv s.size,.nilIface])/\Wr base b (l ++ s.data.toList) tabs w'/\FW base b w w':=by
 obtain⟨i0,hi,hz⟩:=Option.map_eq_some_iff.1 (show (prog.info? 5).map (λ i=>(i.zero,i.size,i.bytes))=some (some (.int .u8 0),1,1) by kernel_rfl);simp only[Prod.mk.injEq] at hz;obtain⟨aa,ab,ae⟩:=hz;have a8:=h.le;have a6:=h.base;have a4:=h.tab;go_enter func88,ntmps88;go_wp2_with (go_at_call 123;refine (Sr h).mono ?_);rintro e w1 ⟨rfl,⟨v,a3,a0⟩,a7⟩;have af:=a7.size;obtain⟨c0,c1,c2,_,_,_⟩:=Ag a3;go_wp2_with (at_builtin;refine Lib.wpList_append_own_stringF _ rfl _ _ 78 9 rfl base 5 i0 underlying78 underlying9 hi aa ab ae _ _ _ rfl a0 s rfl ?c3 ?c4 ?c5 ?_)
 case c3=>unfold maxLen;omega
 case c4=>omega
 case c5=>omega
 intro v' w2 hown' hgrow _;have a9:b<w1.heap.size:=(AB a3).1;have a5:w2.heap[b]?=some (Ah2 (Bh b) v tabs):=by
  rw[hgrow.block b a9 (λ e=>Ez a3 a0 e.symm)];exact a3
 obtain⟨d0,d1,d2,_,f1,_⟩:=Ag a5;obtain⟨ao,n',cap,rfl⟩:∃ao n' cap,v'=.slice ao n' cap:=by
  rcases hown'.2 with⟨hv,_⟩ | ⟨g,cap,cur,fz,hv,_⟩
  .exact⟨_,_,_,hv⟩
  .exact⟨_,_,_,hv⟩
 go_wp2
 go_ret2
 have hF:=(a7.grown hgrow a0 (by omega)).set a8 1 (.slice ao n' cap);refine⟨rfl,⟨a8,a4.mono hF.below,_,_,AJ rfl,by simp[World.setCell,Array.getElem?_modify,a5];rfl,?_⟩,hF⟩;rw[Lw,<-Kc,length_append,Fg];exact C8 hown' λ g hg=>AG _ _ _ _ (λ e=>Ez a5 hown' (by rw[hg,e]))
theorem Yx{base:Nat}{l:AQ}{tabs:Nat}(h:Wr base b l tabs w) :
  AA 64 #[Bh b] w λ e w'=>e=.returned (iv l.length)/\w'=w:=by
 obtain⟨h0,ht,p,v,hp,hb,ho⟩:=h;obtain⟨ao,cap,rfl⟩:∃ao cap,v=.slice ao l.length cap:=by
  rcases ho.2 with⟨hv,h0⟩ | ⟨g,cap,cur,fz,hv,_⟩
  .exact⟨none,0,by rw[hv,h0]⟩
  .exact⟨_,_,hv⟩
 obtain⟨_,c1,_,_,_,_⟩:=Ag hb;go_enter func64,ntmps64;go_wp2;go_ret;exact⟨rfl,rfl⟩
end
end Go.Proofs.YtpckmjfabiallaaGreatDoor
