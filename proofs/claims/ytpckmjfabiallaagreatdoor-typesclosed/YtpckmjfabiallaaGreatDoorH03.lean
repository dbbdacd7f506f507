/- Texts of ours, joined. -/
import Derived.Test.YtpckmjfabiallaaGreatDoorH01
import Derived.Test.YtpckmjfabiallaaGreatDoorH02
set_option linter.unusedVariables false
set_option linter.unusedSimpArgs false
set_option maxRecDepth 100000
set_option maxHeartbeats 16000000
namespace Go.Proofs.YtpckmjfabiallaaGreatDoor
variable{B':Nat->Prop}{T:TypeId}{b f g ga i m sz:Nat}{cs:List Value}{v y0 y1 y2 y3 y4 y5:Value}{w w' w1 w2:World}{x:List UInt8}
open List
open Tryz
section
open Go.RowKit
theorem Gy:∀(l:AQ) (o:Nat) (acc:AQ),l.all Lx.isPlain=true ->
  Lx.quoteR (Cq l ++ [34]) o acc=if (acc ++ l).length<=256 then Lx.R.ok 3 (acc ++ l) 0 (o+(Cq l).length+1) else Lx.R.bad 0 3
 | [],o,acc,_=>by
  rw[show Cq [] ++ [34]=[(34:UInt8)] from rfl,A8,if_pos rfl];simp[Cq]
 | c :: r,o,acc,h=>by
  simp only[all_cons,Bool.and_eq_true] at h;have e:Cq (c :: r)=(if Lx.isEsc c then [92,c] else [c]) ++ Cq r:=by simp[Cq]
  rcases hc:Lx.isEsc c with _ | _
  .have a0:c≠34:=by rintro rfl;simp[Lx.isEsc] at hc
   have a3:c≠92:=by rintro rfl;simp[Lx.isEsc] at hc
   rw[e,hc];simp only[Bool.false_eq_true,if_false,cons_append,nil_append];rw[A8,if_neg a0,if_neg a3,if_pos h.1,Gy r (o+1) (acc ++ [c]) h.2];simp only[append_assoc,cons_append,nil_append,length_cons];rw[show o+1+(Cq r).length+1=o+((Cq r).length+1)+1 by omega]
  .rw[e,hc];simp only[if_true,cons_append,nil_append];rw[A8,if_neg (by decide),if_pos rfl];simp only[hc,if_true];rw[Gy r (o+2) (acc ++ [c]) h.2];simp only[append_assoc,cons_append,nil_append,length_cons];rw[show o+2+(Cq r).length+1=o+((Cq r).length+1+1)+1 by omega]
end
section
theorem N9{p:UInt8->Bool}:∀{l l2:AQ},l2.take (l.takeWhile p).length=l.take (l.takeWhile p).length ->
  (∀c,l2[(l.takeWhile p).length]?=some c->p c=false)->l2.takeWhile p=l.takeWhile p
 | [],[],_,_=>rfl
 | [],c :: r,_,h=>by
  have:=h c rfl;simp[this]
 | a :: r,l2,h1,h2=>by
  by_cases ha:p a
  .simp only[takeWhile_cons_of_pos ha,length_cons] at h1 h2 ⊢;rcases l2 with _ | ⟨b,r2⟩
   .simp at h1
   .simp only[take_succ_cons,List.cons.injEq] at h1;obtain⟨a0,h3⟩:=h1;subst a0;rw[takeWhile_cons_of_pos ha];congr 1;exact N9 h3 (λ c hc=>h2 c (by simpa using hc))
  .simp only[takeWhile_cons_of_neg ha,length_nil] at h1 h2 ⊢;rcases l2 with _ | ⟨b,r2⟩
   .rfl
   .have:=h2 b rfl;simp[this]
theorem Uw{p:UInt8->Bool}{l:AQ}{c:UInt8}(h:l[(l.takeWhile p).length]?=some c):p c=false:=by
 obtain⟨a0,he⟩:=AK h;rcases hp:p c with _ | _
 .rfl
 .have:=Lx.tw_step (l:=l) (p:=p) (k:=(l.takeWhile p).length) (AD _) a0 (by rw[he];exact hp);omega
theorem quote_local:∀(N:Nat) (l l2:AQ) (o:Nat) (acc:AQ) (k:Nat) (t:AQ) (m n:Nat),l.length<=N->Lx.quoteR l o acc=Lx.R.ok k t m n->l2.take (n - o)=l.take (n - o)->Lx.quoteR l2 o acc=Lx.R.ok k t m n
 | N,[],l2,o,acc,k,t,m,n,_,h,_=>by simp[Lx.quoteR,Lx.R.bad,Lx.R.ok] at h
 | 0,c :: r,l2,o,acc,k,t,m,n,hN,h,_=>by simp at hN
 | N+1,c :: r,l2,o,acc,k,t,m,n,hN,h,ht=>by
  have hk:=Bk (N+1) (c :: r) o acc k t m n hN h;obtain⟨q,hq⟩:∃q,n - o=q+1:=⟨n - o - 1,by omega⟩;rw[hq] at ht;rcases l2 with _ | ⟨b,r2⟩
  .simp at ht
  .simp only[take_succ_cons,List.cons.injEq] at ht;obtain⟨a4,a0⟩:=ht;subst a4;rw[A8] at h ⊢;simp only[length_cons] at hN;split at h
   .rename_i h34;rw[if_pos h34];exact h
   .rename_i h34;rw[if_neg h34];split at h
    .rename_i h92;rw[if_pos h92];rcases r with _ | ⟨d,r'⟩
     .simp[Lx.R.ok,Lx.R.bad] at h
     .simp only at h;split at h
      .rename_i hd;have a3:=Bk r'.length r' (o+2) (acc ++ [d]) k t m n (AD _) h;obtain⟨q',a8⟩:∃q',q=q'+1:=⟨q - 1,by omega⟩;rw[a8] at a0;rcases r2 with _ | ⟨e,a6⟩
       .simp at a0
       .simp only[take_succ_cons,List.cons.injEq] at a0;obtain⟨a7,a5⟩:=a0;subst a7;simp only[hd,if_true];exact quote_local N r' a6 (o+2) _ k t m n (by simp at hN;omega) h (by rw[show n - (o+2)=q' by omega];exact a5)
      .simp[Lx.R.ok,Lx.R.bad] at h
    .rename_i h92;rw[if_neg h92];split at h
     .rename_i hp;rw[if_pos hp];have a3:=Bk r.length r (o+1) _ k t m n (AD _) h;exact quote_local N r r2 (o+1) _ k t m n (by omega) h (by rw[show n - (o+1)=q by omega];exact a0)
     .simp[Lx.R.ok,Lx.R.bad] at h
end
section
open Go.RowKit
theorem quote_err:∀(N:Nat) (l:AQ) (o:Nat) (acc:AQ) (a er:Nat),l.length<=N->Lx.quoteR l o acc=Lx.R.bad a er->er≠0
 | N,[],o,acc,a,er,_,h=>by simp[Lx.quoteR,Lx.R.bad] at h;omega
 | 0,c :: r,o,acc,a,er,hN,h=>by simp at hN
 | N+1,c :: r,o,acc,a,er,hN,h=>by
  rw[A8] at h;simp only[length_cons] at hN;split at h
  .split at h
   .simp[Lx.R.ok,Lx.R.bad] at h
   .simp[Lx.R.bad] at h;omega
  .split at h
   .split at h
    .simp[Lx.R.bad] at h;omega
    .split at h
     .rename_i d r' _;exact quote_err N r' (o+2) _ a er (by simp at hN;omega) h
     .simp[Lx.R.bad] at h;omega
   .split at h
    .exact quote_err N r (o+1) _ a er (by omega) h
    .simp[Lx.R.bad] at h;omega
theorem tok_err{dot:Bool}{l:AQ}{a er:Nat}(h:Lx.tokR dot l=Lx.R.bad a er):er≠0:=by
 match l,h with
 | [],h=>simp[Lx.tokR,Lx.R.ok,Lx.R.bad] at h
 | c :: r,h=>
  simp only[Lx.tokR] at h;split at h
  .unfold Lx.nameR at h;split at h
   .simp[Lx.R.ok,Lx.R.bad] at h
   .simp[Lx.R.bad] at h;omega
  .split at h
   .unfold Lx.numberR at h;split at h
    .simp[Lx.R.bad] at h;omega
    .split at h
     .simp[Lx.R.ok,Lx.R.bad] at h
     .simp[Lx.R.bad] at h;omega
   .split at h
    .exact quote_err r.length r 1 [] a er (AD _) h
    .unfold Lx.markR at h;split at h
     .simp[Lx.R.bad] at h;omega
     .simp[Lx.R.ok,Lx.R.bad] at h
theorem Py(dot:Bool):∀(f:Nat) (l:AQ) (i c a er:Nat),l.length<f->Lx.lexF dot f l i c=.inr (a,er)->er≠0
 | 0,l,i,c,a,er,hf,h=>by omega
 | f+1,l,i,c,a,er,hf,h=>by
  simp only[Lx.lexF] at h;split at h
  .split at h
   .simp at h
   .simp at h;omega
  .rename_i x r hd;have hl:=congrArg List.length hd;simp at hl;split at h
   .rename_i o e ht;simp at h;rw[<-h.2];exact tok_err ht
   .rename_i k t m n ht;split at h
    .rcases hg:Lx.lexF dot f (r.drop (n - 1)) (i+Lx.skipF false l+n) (c+1) with ts | ⟨a',e'⟩
     .rw[hg] at h;simp[Lx.Out.pre] at h
     .rw[hg] at h;simp[Lx.Out.pre] at h;rw[<-h.2];exact Py dot f _ _ _ a' e' (by simp;omega) hg
    .simp at h;omega
theorem Ag5{dot:Bool}{l:AQ}{a er:Nat}(h:Lx.lex dot l=.inr (a,er)):er≠0:=by
 unfold Lx.lex at h;split at h
 .simp at h;omega
 .exact Py dot _ l 0 0 a er (Nat.lt_succ_self _) h
def Yp(w:World)(g:Nat)(ts:List Lx.Tok):Prop:=∀k t,ts[k]?=some t->w.cell? ⟨g,k*4,none⟩=some (iv t.kind)/\w.cell? ⟨g,k*4+1,none⟩=some (.string ⟨t.text.toArray⟩)/\w.cell? ⟨g,k*4+2,none⟩=some (iv t.num)/\w.cell? ⟨g,k*4+3,none⟩=some (iv t.place)
theorem Pw:∀(ts:List Lx.Tok) (k:Nat) (t:Lx.Tok),ts[k]?=some t->(Dm ts)[k*4]?=some (iv t.kind)/\(Dm ts)[k*4+1]?=some (.string ⟨t.text.toArray⟩)/\(Dm ts)[k*4+2]?=some (iv t.num)/\(Dm ts)[k*4+3]?=some (iv t.place)
 | [],k,t,h=>by simp at h
 | a :: r,0,t,h=>by
  simp at h;subst h;simp[Dm,Em]
 | a :: r,k+1,t,h=>by
  have ih:=Pw r k t (by simpa using h);have e:Dm (a :: r)=Em a ++ Dm r:=by simp[Dm]
  have hl:(Em a).length=4:=rfl;rw[e];refine⟨?_,?_,?_,?_⟩
  .rw[List.getElem?_append_right (by omega),hl,show (k+1)*4 - 4=k*4 by omega];exact ih.1
  .rw[List.getElem?_append_right (by omega),hl,show (k+1)*4+1 - 4=k*4+1 by omega];exact ih.2.1
  .rw[List.getElem?_append_right (by omega),hl,show (k+1)*4+2 - 4=k*4+2 by omega];exact ih.2.2.1
  .rw[List.getElem?_append_right (by omega),hl,show (k+1)*4+3 - 4=k*4+3 by omega];exact ih.2.2.2
theorem Wl{base:Nat}{e:TypeId}{ts:List Lx.Tok}(h:w.ownsRow base e 4 v ts.length (Dm ts))(hn:0<ts.length) :
  ∃g cap,v=sL g 0 ts.length cap/\base<=g/\g<w.heap.size/\ts.length<=cap/\Yp w g ts:=by
 have h2:=h.2;obtain⟨g,cap,hv,hg,hl,hc⟩:=Sk h hn;refine⟨g,cap,hv,hg,hl,?_,?_⟩
 .rcases h2 with⟨h0,_⟩ | ⟨g',a3,cur,a0,_,_,a4,_⟩
  .rw[hv] at h0;simp at h0
  .rw[hv] at a0;simp at a0;omega
 .intro k t hk;obtain⟨a,b,c,d⟩:=Pw ts k t hk;exact⟨hc _ _ a,hc _ _ b,hc _ _ c,hc _ _ d⟩
theorem C6{dot:Bool}{l:AQ}{ts:List Lx.Tok}(h:Lx.lex dot l=.inl ts):0<ts.length/\l.length<=16384:=by
 unfold Lx.lex at h;split at h
 .simp at h
 .refine⟨?_,by omega⟩;rcases hd:l.drop (Lx.skipF false l) with _ | ⟨x,r⟩
  .rw[Lx.lexGo_end hd] at h;simp at h;subst h;simp
  .rcases ht:Lx.tokR dot (x :: r) with⟨k,t,m,n⟩ | ⟨o,e⟩
   .rw[Lx.lexGo_ok hd ht (B7 ht).2.1] at h;simp only[Nat.zero_lt_succ,if_true] at h;rcases hg:Lx.lexGo dot (l.drop (Lx.skipF false l+n)) (0+Lx.skipF false l+n) (0+1) with ts' | y
    .rw[hg] at h;simp[Lx.Out.pre] at h;subst h;simp
    .rw[hg] at h;simp[Lx.Out.pre] at h
   .rw[Lx.lexGo_bad hd ht] at h;simp at h
theorem Pz(dot:Bool):∀(f:Nat) (l:AQ) (i c:Nat) (ts:List Lx.Tok),l.length<f->Lx.lexF dot f l i c=.inl ts->c+ts.length<=4096
 | 0,l,i,c,ts,hf,h=>by omega
 | f+1,l,i,c,ts,hf,h=>by
  simp only[Lx.lexF] at h;split at h
  .split at h
   .simp at h;subst h;simp;omega
   .simp at h
  .rename_i x r hd;have hl:=congrArg List.length hd;simp at hl;split at h
   .simp at h
   .rename_i k t m n ht;split at h
    .rcases hg:Lx.lexF dot f (r.drop (n - 1)) (i+Lx.skipF false l+n) (c+1) with ts' | y
     .rw[hg] at h;simp[Lx.Out.pre] at h;subst h;have:=Pz dot f _ _ _ ts' (by simp;omega) hg;simp;omega
     .rw[hg] at h;simp[Lx.Out.pre] at h
    .simp at h
theorem Ux{dot:Bool}{l:AQ}{ts:List Lx.Tok}(h:Lx.lex dot l=.inl ts):ts.length<=4096:=by
 unfold Lx.lex at h;split at h
 .simp at h
 .have:=Pz dot _ l 0 0 ts (Nat.lt_succ_self _) h;omega
end
section
theorem F6{dot:Bool}{L:AQ}{c:Nat}{ts:List Lx.Tok}(h:Lx.lexGo dot L i c=.inl ts):∃u rest,ts=u :: rest/\u.place=i+Lx.skipF false L/\c<4096 /\
  ((L.drop (Lx.skipF false L)=[]/\rest=[]/\u=⟨5,[],0,i+Lx.skipF false L⟩) \/
   ∃x r k t m n,L.drop (Lx.skipF false L)=x :: r/\Lx.tokR dot (x :: r)=Lx.R.ok k t m n/\u=⟨k,t,m,i+Lx.skipF false L⟩/\Lx.lexGo dot (L.drop (Lx.skipF false L+n)) (i+Lx.skipF false L+n) (c+1)=.inl rest):=by
 rcases hd:L.drop (Lx.skipF false L) with _ | ⟨x,r⟩
 .rw[Lx.lexGo_end hd] at h;split at h
  .rename_i hc;simp only[Sum.inl.injEq] at h;exact⟨_,[],h.symm,rfl,hc,AI ⟨rfl,rfl,rfl⟩⟩
  .simp at h
 .rcases ht:Lx.tokR dot (x :: r) with⟨k,t,m,n⟩ | ⟨o,e⟩
  .rw[Lx.lexGo_ok hd ht (B7 ht).2.1] at h;split at h
   .rename_i hc;rcases hg:Lx.lexGo dot (L.drop (Lx.skipF false L+n)) (i+Lx.skipF false L+n) (c+1) with ts' | y
    .rw[hg] at h;simp only[Lx.Out.pre,cons_append,nil_append,Sum.inl.injEq] at h;exact⟨_,ts',h.symm,rfl,hc,AJ ⟨x,r,k,t,m,n,rfl,ht,rfl,hg⟩⟩
    .rw[hg] at h;simp[Lx.Out.pre] at h
   .simp at h
  .rw[Lx.lexGo_bad hd ht] at h;simp at h
theorem So(dot:Bool)(l:AQ):∀(N i c:Nat) (ts:List Lx.Tok),l.length - i<N->i<=l.length->Lx.lexGo dot (l.drop i) i c=.inl ts->Px.Good ts:=by
 intro N;induction N with
 | zero=>intro i c ts hN;omega
 | succ N ih=>
  intro i c ts hN hi h;obtain⟨u,a4,rfl,a8,hc,a3⟩:=F6 h;have a7:=Lx.skip_le false (l.drop i);simp only[length_drop] at a7;rcases a3 with⟨hd,rfl,rfl⟩ | ⟨x,r,k,t,m,n,hd,ht,rfl,a0⟩
  .rfl
  .have a6:=B7 ht;have a5:=congrArg List.length hd;simp at a5;rw[drop_drop,<-Nat.add_assoc] at a0;have hg:=ih (i+Lx.skipF false (l.drop i)+n) (c+1) a4 (by omega) (by omega) a0
   match a4,hg with
   | u :: r,hg=>exact⟨a6.1,hg⟩
theorem P0{dot:Bool}{l:AQ}{ts:List Lx.Tok}(h:Lx.lex dot l=.inl ts):Px.Good ts:=by
 have a0:=(C6 h).2;unfold Lx.lex at h;rw[if_neg (by omega)] at h;exact So dot l (l.length+1) 0 0 ts (by omega) (by omega) (by simpa using h)
theorem P1{l:AQ}{ts:List Lx.Tok}{a e:Nat}(h:Lx.lex true l=.inl ts)(hp:Px.program ts=.inr (a,e)):(∃t∈ts,t.place=a)/\(e=31\/e=32):=
 (Px.program_ok ts (P0 h)).bad a e hp
def cls:List UInt8->Nat
 | []=>5
 | c :: _=>if Lx.isLetter c then 1 else if Lx.isDigit c then 2 else 4
def Wm(t:Lx.Tok):Prop:=t.kind=3\/t.kind=cls t.text
theorem Yq{dot:Bool}{x:UInt8}{r:AQ}{k:Nat}{t:AQ}{n:Nat}(h:Lx.tokR dot (x :: r)=Lx.R.ok k t m n):k=3\/k=cls t:=by
 simp only[Lx.tokR] at h;split at h
 .rename_i hl;unfold Lx.nameR at h;split at h
  .simp only[Lx.R.ok,Sum.inl.injEq,Prod.mk.injEq] at h;obtain⟨rfl,rfl,_⟩:=h;right;rw[takeWhile_cons_of_pos (by simp[Lx.isPart,hl])];simp[cls,hl]
  .simp[Lx.R.ok,Lx.R.bad] at h
 .rename_i hl;split at h
  .rename_i hd;unfold Lx.numberR at h;split at h
   .simp[Lx.R.ok,Lx.R.bad] at h
   .split at h
    .simp only[Lx.R.ok,Sum.inl.injEq,Prod.mk.injEq] at h;obtain⟨rfl,rfl,_⟩:=h;right;rw[takeWhile_cons_of_pos hd];simp[cls,hl,hd]
    .simp[Lx.R.ok,Lx.R.bad] at h
  .rename_i hd;split at h
   .left;exact (Bk r.length r 1 [] k t m n (AD _) h).1
   .unfold Lx.markR at h;split at h
    .simp[Lx.R.ok,Lx.R.bad] at h
    .rename_i hz;simp only[Lx.R.ok,Sum.inl.injEq,Prod.mk.injEq] at h;obtain⟨rfl,rfl,_⟩:=h;right;obtain⟨q,hq⟩:∃q,Lx.markN dot (x :: r)=q+1:=⟨Lx.markN dot (x :: r) - 1,by omega⟩;rw[hq,take_succ_cons];simp[cls,hl,hd]
theorem Sp(dot:Bool)(l:AQ):∀(N i c:Nat) (ts:List Lx.Tok),l.length - i<N->i<=l.length->Lx.lexGo dot (l.drop i) i c=.inl ts->∀t∈ts,Wm t:=by
 intro N;induction N with
 | zero=>intro i c ts hN;omega
 | succ N ih=>
  intro i c ts hN hi h;obtain⟨u,a5,rfl,a8,hc,a3⟩:=F6 h;have a6:=Lx.skip_le false (l.drop i);simp only[length_drop] at a6;rcases a3 with⟨hd,rfl,rfl⟩ | ⟨x,r,k,t,m,n,hd,ht,rfl,a0⟩
  .intro t ht;simp at ht;subst ht;exact AJ rfl
  .have a7:=B7 ht;have a4:=congrArg List.length hd;simp at a4;rw[drop_drop,<-Nat.add_assoc] at a0;have hg:=ih (i+Lx.skipF false (l.drop i)+n) (c+1) a5 (by omega) (by omega) a0;intro t' ht';simp only[mem_cons] at ht';rcases ht' with rfl | ht'
   .exact Yq ht
   .exact hg t' ht'
theorem Yr{dot:Bool}{l:AQ}{ts:List Lx.Tok}(h:Lx.lex dot l=.inl ts):∀t∈ts,Wm t:=by
 have a0:=(C6 h).2;unfold Lx.lex at h;rw[if_neg (by omega)] at h;exact Sp dot l (l.length+1) 0 0 ts (by omega) (by omega) (by simpa using h)
def isB(x:AQ)(t:Lx.Tok):Bool:=t.text == x && t.kind != 3
theorem Ys{t:Lx.Tok}{r:List Lx.Tok}(h:Wm t)(h3:cls x≠3):isB x t=Px.sees (cls x) x (t :: r):=by
 simp only[isB,Px.sees];rw[Bool.eq_iff_iff];simp only[Bool.and_eq_true,beq_iff_eq,bne_iff_ne,ne_eq];constructor
 .rintro⟨h1,h2⟩;rcases h with h | h
  .exact absurd h h2
  .exact⟨by rw[h,h1],h1⟩
 .rintro⟨h1,h2⟩;exact⟨h2,by omega⟩
namespace Px
open Lx (Tok B)
def isCmp:List Tok->Bool
 | t :: _=>(levelOf t).1 == 3
 | []=>false
def Fh{α:Type}(r:R α):R α:=
 match r with
 | .inl (x,l)=>if isCmp l then fail 31 l else .inl (x,l)
 | .inr f=>.inr f
def GE(e e':P Ex):Prop:=∀l,Good l->e l=Fh (e' l)
def cmp(q:P Ex)(l:List Tok):R Ex:=bind (q l) λ x l1=>
 match l1 with
 | t :: r=>if (levelOf t).1=3 then bind (q r) λ y l2=>.inl (.mk 15 (levelOf t).2 0 [] [x,y] t.place,l2) else .inl (x,t :: r)
 | []=>.inr (0,0)
def lvl'(q:P Ex):P Ex:=level 1 (level 2 (cmp (level 4 (level 5 q))))
def expr'(k:Nat):P Ex:=lvl' (unary k)
theorem level_kind{t:Tok}(h:(levelOf t).1≠0):t.kind=4:=by
 by_cases hk:t.kind=4
 .exact hk
 .exfalso;apply h;unfold levelOf;rw[if_neg hk]
theorem Fi{l:List Tok}(h:isCmp l=true):∃t r,l=t :: r/\(levelOf t).1=3:=by
 match l,h with
 | t :: r,h=>exact⟨t,r,rfl,by simpa [isCmp] using h⟩
theorem J6{t:Tok}{a b:Nat}(x:B)(hx:(levelOf (⟨4,x,0,0⟩:Tok)).1≠3)(h:(levelOf t).1=3):¬t.text=x:=by
 intro he;have hk:=level_kind (t:=t) (by omega);apply hx;rw[<-h];unfold levelOf;simp only[hk,he]
theorem J7{l:List Tok}{x:B}(hx:(levelOf (⟨4,x,0,0⟩:Tok)).1≠3)(h:isCmp l=true):need x l=fail 31 l:=by
 obtain⟨t,r,rfl,h3⟩:=Fi h;have:=J6 (a:=0) (b:=0) x hx h3;unfold need needK;rw[if_neg (by simp[sees,this])]
theorem Yt{l:List Tok}{k:Nat}{x:B}(hx:(levelOf (⟨4,x,0,0⟩:Tok)).1≠3)(h:isCmp l=true):sees k x l=false:=by
 obtain⟨t,r,rfl,h3⟩:=Fi h;have:=J6 (a:=0) (b:=0) x hx h3;simp[sees,this]
theorem Gz{α β:Type}{r:R α}{f g:α->List Tok->R β}(h1:∀x l,r=.inl (x,l)->isCmp l=true->g x l=fail 31 l)(h2:∀x l,r=.inl (x,l)->isCmp l=false->f x l=g x l):bind (Fh r) f=bind r g:=by
 match r,h1,h2 with
 | .inr e,_,_=>rfl
 | .inl (x,l),h1,h2=>
  simp only[Fh];rcases hc:isCmp l with _ | _
  .simp only[Bool.false_eq_true,if_false,bind];exact h2 x l rfl hc
  .simp only[if_true];show (fail 31 l:R β)=_;simp only[bind];exact (h1 x l rfl hc).symm
theorem cmp_ok{q:P Ex}(hq:Ok q):Ok (cmp q):=λ l hg=>(hq l hg).bind1 λ x l1 _ a1=>by
 match l1,a1 with
 | [],a1=>exact absurd a1.good (by simp[Good])
 | t :: r,a1=>
  simp only;split
  .rename_i h;have hk:=level_kind (t:=t) (by omega);have a3:=a1.good.tail (by omega);have a0:Adv 1 (t :: r) r:=⟨a3,AE _ _,by simp⟩;exact (Res.after a0 ((hq r a3).weak.bind0 λ y l2 _ a2=>Res.here a2.good)).weak
  .exact Res.here a1.good
theorem Ag6{q:P Ex}(hq:Ok q):Ok (lvl' q):=level_ok (level_ok (cmp_ok (level_ok (level_ok hq (by decide)) (by decide))) (by decide)) (by decide)
theorem expr'_ok(k:Nat):Ok (expr' k):=Ag6 (unary_ok k)
theorem Wn{q:P Ex}(hq:Ok q):GE (level 3 q) (cmp q):=by
 intro l hg;unfold level cmp;rcases h:q l with⟨x,l1⟩ | f
 .have a1:=(hq l hg).ok x l1 h
  match l1,a1 with
  | [],a1=>exact absurd a1.good (by simp[Good])
  | t :: r,a1=>
   simp only[bind,chain,length_cons];by_cases hl:(levelOf t).1=3
   .rw[if_pos hl,if_pos hl,if_neg (by omega)];have hk:=level_kind (t:=t) (by omega);have a0:=a1.good.tail (by omega);rcases h2:q r with⟨y,l2⟩ | f
    .have a2:=(hq r a0).ok y l2 h2
     match l2,a2 with
     | [],a2=>exact absurd a2.good (by simp[Good])
     | u :: v,a2=>
      simp only[bind,chain,Fh];by_cases h3:(levelOf u).1=3
      .rw[if_pos h3,if_pos ⟨trivial,by omega⟩,if_pos (show isCmp (u :: v)=true by simpa [isCmp] using h3)]
      .rw[if_neg h3,if_neg (show ¬isCmp (u :: v)=true by simpa [isCmp] using h3)]
    .rfl
   .rw[if_neg hl,if_neg hl];simp only[Fh];rw[if_neg (show ¬isCmp (t :: r)=true by simpa [isCmp] using hl)]
 .rfl
theorem Mj{n:Nat}{q:P Ex}(hn:n≠3){c:Nat}{acc:Ex}{l:List Tok}(h:isCmp l=true)(hf:0<f):chain n q f c acc l=.inl (acc,l):=by
 obtain⟨t,r,rfl,h3⟩:=Fi h
 match f,hf with
 | f+1,_=>simp only[chain];rw[if_neg (by omega)]
theorem P2{n:Nat}{q q':P Ex}(hn:n≠3)(a4:0<n)(hq:Ok q')(a0:GE q q'):∀(f c:Nat) (acc:Ex) (l:List Tok),Good l->l.length<f->isCmp l=false->chain n q f c acc l=Fh (chain n q' f c acc l)
 | 0,_,_,_,_,h,_=>by omega
 | f+1,c,acc,[],hg,h,_=>by exact absurd hg (by simp[Good])
 | f+1,c,acc,t :: r,hg,h,hc=>by
  simp only[chain];by_cases hl:(levelOf t).1=n
  .rw[if_pos hl,if_pos hl,if_neg (by omega),if_neg (by omega)];have hk:=level_kind (t:=t) (by omega);have a3:=hg.tail (by omega);rw[a0 r a3];rcases h2:q' r with⟨x,l1⟩ | e
   .have a2:=(hq r a3).ok x l1 h2;have a5:=a2.less;simp only[length_cons] at h;rcases hc1:isCmp l1 with _ | _
    .simp only[Fh,hc1,bind,Bool.false_eq_true,if_false];exact P2 hn a4 hq a0 f (c+1) _ l1 a2.good (by omega) hc1
    .simp only[bind];rw[Mj hn hc1 (by omega)];simp only[Fh,hc1,if_true];rfl
   .rfl
  .rw[if_neg hl,if_neg hl];simp only[Fh,hc,Bool.false_eq_true,if_false]
theorem P3{n:Nat}{q q':P Ex}(hn:n≠3)(a3:0<n)(hq:Ok q')(a0:GE q q'):GE (level n q) (level n q'):=by
 intro l hg;unfold level;rw[a0 l hg];rcases h2:q' l with⟨x,l1⟩ | e
 .have a2:=(hq l hg).ok x l1 h2;rcases hc1:isCmp l1 with _ | _
  .simp only[Fh,hc1,bind,Bool.false_eq_true,if_false];exact P2 hn a3 hq a0 _ _ _ l1 a2.good (by omega) hc1
  .simp only[bind];rw[Mj hn hc1 (by omega)];simp only[Fh,hc1,if_true];rfl
 .rfl
theorem An3{q:P Ex}(hq:Ok q):GE (lvl q) (lvl' q):=by
 have h5:=level_ok hq (n:=5) (by decide);have h4:=level_ok h5 (n:=4) (by decide);have h3:=cmp_ok h4;have g3:=Wn h4;have h2:=level_ok h3 (n:=2) (by decide);exact P3 (by decide) (by decide) h2 (P3 (by decide) (by decide) h3 g3)
theorem Ee(k:Nat):GE (Lt k) (expr' k):=An3 (unary_ok k)
theorem then_need{β:Type}{e e':P Ex}(a0:GE e e'){l:List Tok}(hg:Good l){x:B}(hx:(levelOf (⟨4,x,0,0⟩:Tok)).1≠3)(f:Ex->Unit->List Tok->R β) :
  (bind (e l) λ a l1=>bind (need x l1) λ u l2=>f a u l2)=bind (e' l) λ a l1=>bind (need x l1) λ u l2=>f a u l2:=by
 rw[a0 l hg];exact Gz (λ a l1 _ hc=>by rw[J7 hx hc];rfl) (λ _ _ _ _=>rfl)
theorem bind_congr{α β:Type}{r:R α}{f g:α->List Tok->R β}(h:∀x l,r=.inl (x,l)->f x l=g x l):bind r f=bind r g:=by
 match r,h with
 | .inr e,_=>rfl
 | .inl (x,l),h=>exact h x l rfl
theorem Yu{e e':P Ex}(he:Ok e')(a0:GE e e'):∀(f:Nat) (acc:Ex) (l:List Tok),Good l->ats e f acc l=ats e' f acc l
 | 0,_,_,_=>rfl
 | f+1,acc,l,hg=>by
  simp only[ats];split
  .rename_i hs;have a:=sees4 hs hg;rw[then_need a0 a.good (by decide)];exact bind_congr λ x l1 h1=>bind_congr λ u l2 h2=>Yu he a0 f _ l2 (((need_res ((he _ a.good).ok x l1 h1).good).ok u l2 h2).good)
  .rfl
theorem P4{e e':P Ex}(he:Ok e')(a0:GE e e'):∀(f n:Nat) (acc:List Ex) (l:List Tok),Good l->l.length<f->items e f n acc l=items e' f n acc l
 | 0,_,_,_,_,h=>by omega
 | f+1,n,acc,l,hg,h=>by
  simp only[items];split
  .rfl
  .refine bind_congr λ u l1 h1=>?_
   have a1:=(sep_res hg).ok u l1 h1;rw[a0 l1 a1.good];refine Gz (λ x l2 h2 hc=>?_) (λ x l2 h2 hc=>?_)
   .have a2:=(he l1 a1.good).ok x l2 h2;have:=a1.less;have:=a2.less
    match f,(show 0<f by omega) with
    | f+1,_=>
     simp only[items];rw[if_neg (by rw[Yt (by decide) hc];simp),sep,if_neg (by omega),J7 (by decide) hc];rfl
   .have a2:=(he l1 a1.good).ok x l2 h2;have:=a1.less;have:=a2.less;exact P4 he a0 f (n+1) _ l2 a2.good (by omega)
theorem Sq{e e':P Ex}(he:Ok e')(a0:GE e e'){l:List Tok}(hg:Good l):primary e l=primary e' l:=by
 match l,hg with
 | t :: r,hg=>
  simp only[primary];split
  .rfl
  split
  .rfl
  split
  .rfl
  split
  .rfl
  split
  .rename_i h;have a:=sees4 h hg;exact then_need a0 a.good (by decide) _
  .refine bind_congr λ t1 l1 h1=>?_
   have a1:=(name_res hg).ok t1 l1 h1;split
   .rename_i h;have a:=sees4 h a1.good;rw[P4 he a0 _ _ _ _ a.good (by have:=a.less;omega)]
   .rfl
theorem unary_as{k:Nat}{l:List Tok}(hg:Good l):unary (k+1) l =
  if sees 4 [45] l then bind (unary k l.tail) λ x l1=>.inl (.mk 13 0 0 [] [x] (place l),l1)
  else if sees 4 [33] l then bind (unary k l.tail) λ x l1=>.inl (.mk 14 0 0 [] [x] (place l),l1)
  else bind (primary (expr' k) l) λ x l1=>ats (expr' k) (l1.length+1) x l1:=by
 simp only[unary];split
 .rfl
 split
 .rfl
 .show (bind (primary (Lt k) l) λ x l1=>ats (Lt k) (l1.length+1) x l1)=_;rw[Sq (expr'_ok k) (Ee k) hg];exact bind_congr λ x l1 h1=>Yu (expr'_ok k) (Ee k) _ _ _ ((J0 (expr'_ok k) l hg).ok x l1 h1).good
theorem expr'_zero(l:List Tok):expr' 0 l=fail 32 l:=rfl
theorem An4{e e':P Ex}(a0:GE e e'){l:List Tok}(hg:Good l):opt e l=opt e' l:=by
 unfold opt;split
 .rename_i h;exact then_need a0 (sees4 h hg).good (by decide) _
 .rfl
theorem J8{β:Type}{k:Nat}{l:List Tok}(hg:Good l)(f:Ex->List St->List Tok->R β) :
  (bind (Lt k l) λ x l1=>bind (block k l1) λ b l2=>f x b l2)=bind (expr' k l) λ x l1=>bind (block k l1) λ b l2=>f x b l2:=by
 rw[Ee k l hg];refine Gz (λ a l1 h1 hc=>?_) (λ _ _ _ _=>rfl)
 match k,h1 with
 | 0,h1=>rw[expr'_zero] at h1;simp[fail] at h1
 | k+1,h1=>simp only[block];rw[J7 (by decide) hc];rfl
theorem Ag7{k:Nat}{l:List Tok}(hg:Good l):stmt (Lt k) (block k) l=stmt (expr' k) (block k) l:=by
 unfold stmt;split
 .rename_i h;have a:=sees1 h hg;exact bind_congr λ t l1 h1=>bind_congr λ u l2 h2=>then_need (Ee k) (((need_res ((name_res a.good).ok t l1 h1).good).ok u l2 h2).good) (by decide) _
 split
 .rename_i h;have a:=sees1 h hg;refine bind_congr λ t l1 h1=>?_
  have a1:=(name_res a.good).ok t l1 h1;rw[An4 (Ee k) a1.good];refine bind_congr λ xs l2 h2=>bind_congr λ u l3 h3=>?_
  have a2:=(Um (expr'_ok k) a1.good).ok xs l2 h2;exact then_need (Ee k) (((need_res a2.good).ok u l3 h3).good) (by decide) _
 split
 .rename_i h;have a:=sees1 h hg;exact bind_congr λ t l1 h1=>bind_congr λ u l2 h2=>then_need (Ee k) (((need_res ((name_res a.good).ok t l1 h1).good).ok u l2 h2).good) (by decide) _
 split
 .rename_i h;have a:=sees1 h hg;exact J8 a.good _
 split
 .rename_i h;have a:=sees1 h hg;exact bind_congr λ t l1 h1=>bind_congr λ u l2 h2=>J8 (((F1 ((name_res a.good).ok t l1 h1).good (by decide)).ok u l2 h2).good) _
 split
 .rename_i h;have a:=sees1 h hg;exact then_need (Ee k) a.good (by decide) _
 .rfl
theorem Iz{q q':P St}(hq:Ok q)(h:∀l,Good l->q l=q' l):∀(f:Nat) (acc:List St) (l:List Tok),Good l->stmts q f acc l=stmts q' f acc l
 | 0,_,_,_=>rfl
 | f+1,acc,l,hg=>by
  simp only[stmts];split
  .rfl
  .rw[<-h l hg];exact bind_congr λ s l1 h1=>Iz hq h f _ l1 ((hq l hg).ok s l1 h1).good
theorem block_as{k:Nat}{l:List Tok}(hg:Good l):block (k+1) l=bind (need [123] l) λ _ l1=>stmts (stmt (expr' k) (block k)) (l1.length+1) [] l1:=by
 simp only[block];exact bind_congr λ u l1 h1=>Iz (N1 (expr_ok k) (Hg k)) (λ l hg=>Ag7 hg) _ _ _ ((need_res hg).ok u l1 h1).good
theorem stmt'_ok(k:Nat):Ok (stmt (expr' k) (block k)):=N1 (expr'_ok k) (Hg k)
end Px
end
section
open Go.RowKit
abbrev From(n:Nat):Nat->Prop:=λ g=>n<=g
theorem B8{n:Nat}(h:m<=n):∀k,From n k->From m k:=λ k hk=>AP h hk
def SlRow(B:AS)(w:World)(sz:Nat)(v:Value)(n:Nat)(row:AR):Prop:=
 row.length=n*sz/\((v=sZ/\n=0)\/∃g o cap,v=sL g o n cap/\n<=cap/\cap<=maxLen/\B g/\g<w.heap.size/\∀(j:Nat) (u:Value),row[j]?=some u->w.cell? ⟨g,o+j,none⟩=some u)
mutual
def IsEx(B:AS)(w:World):Px.Ex->List Value->Prop
 | .mk k o n t args p,cs=>∃sl row,cs=[iv k,iv o,iv n,.string ⟨t.toArray⟩,iv 0,sE,sl,iv p]/\SlRow B w 8 sl args.length row/\Aj B w args row
def Aj(B:AS)(w:World):List Px.Ex->List Value->Prop
 | [],cs=>cs=[]
 | e :: r,cs=>∃c1 c2,cs=c1 ++ c2/\IsEx B w e c1/\Aj B w r c2
end
mutual
def IsSt(B:AS)(w:World):Px.St->List Value->Prop
 | .mk k n es b c p,cs=>∃s1 s2 s3 r1 r2 r3,cs=[iv k,.string ⟨n.toArray⟩,iv 0,.bool false,iv 0,s1,s2,s3,iv p]/\SlRow B w 8 s1 es.length r1/\Aj B w es r1/\SlRow B w 9 s2 b.length r2/\As B w b r2/\SlRow B w 9 s3 c.length r3/\As B w c r3
def As(B:AS)(w:World):List Px.St->List Value->Prop
 | [],cs=>cs=[]
 | e :: r,cs=>∃c1 c2,cs=c1 ++ c2/\IsSt B w e c1/\As B w r c2
end
def Bi(s:Px.Sl):List Value:=[.string ⟨s.name.toArray⟩,.string ⟨s.type.toArray⟩,iv s.place]
def Dv(B:AS)(w:World)(l:List Px.Sl)(v:Value):Prop:=SlRow B w 3 v l.length (l.flatMap Bi)
def Bg(B:AS)(w:World)(l:List Px.St)(v:Value):Prop:=∃row,SlRow B w 9 v l.length row/\As B w l row
def Eh(B:AS)(w:World)(f:Px.Fn)(cs:AR):Prop:=
 ∃ps bs,cs=[.string ⟨f.name.toArray⟩,.bool f.on,ps,.string ⟨f.result.toArray⟩,sZ,bs,iv f.place]/\Dv B w f.params ps/\Bg B w f.body bs
def Br(B:AS)(w:World):List Px.Fn->List Value->Prop
 | [],cs=>cs=[]
 | e :: r,cs=>∃c1 c2,cs=c1 ++ c2/\Eh B w e c1/\Br B w r c2
def Fj(B:AS)(w:World)(l:List Px.Fn)(v:Value):Prop:=∃row,SlRow B w 7 v l.length row/\Br B w l row
def Ec(B:AS)(w:World)(p:Px.Pr)(v:Value):Prop:=∃ss fs,v=.agg #[iv p.version,ss,fs]/\Dv B w p.states ss/\Fj B w p.fns fs
structure Since(B:AS)(w w':World):Prop where
 size:w.heap.size<=w'.heap.size
 block:∀k,B k->k<w.heap.size->w'.heap[k]?=w.heap[k]?
theorem Since.trans{B:AS}(a:Since B w w1)(b:Since B w1 w2):Since B w w2:=⟨AP a.size b.size,λ k h1 h2=>(b.block k h1 (by have:=a.size;omega)).trans (a.block k h1 h2)⟩
theorem Since.of_below{B:AS}(h:Below w.heap.size w w'):Since B w w':=⟨h.size,λ k _ h2=>h.block k h2⟩
theorem Since.drewN(B:AS)(w:World)(n:Nat):Since B w (w.drewN n):=⟨AD _,λ _ _ _=>rfl⟩
theorem SlRow.since{B:AS}{n:Nat}{row:AR}(h:SlRow B w sz v n row)(s:Since B w w'):SlRow B w' sz v n row:=by
 obtain⟨h1,h2⟩:=h;refine⟨h1,?_⟩;rcases h2 with h2 | ⟨g,o,cap,hv,hc,hm,hB,hg,a0⟩
 .exact AI h2
 .refine AJ ⟨g,o,cap,hv,hc,hm,hB,by have:=s.size;omega,λ j u hj=>?_⟩;rw[World.cell?_of_block (w:=w) (s.block g hB hg)];exact a0 j u hj
theorem SlRow.base{B:AS}{n:Nat}{row:AR}(h:SlRow B w sz v n row)(hb:∀k,B k->B' k):SlRow B' w sz v n row:=by
 obtain⟨h1,h2⟩:=h;refine⟨h1,?_⟩;rcases h2 with h2 | ⟨g,o,cap,hv,hc,hm,hB,r⟩
 .exact AI h2
 .exact AJ ⟨g,o,cap,hv,hc,hm,hb _ hB,r⟩
mutual
theorem IsEx.since{B:AS}{w w':World}(s:Since B w w'):∀{e:Px.Ex} {cs:AR},IsEx B w e cs->IsEx B w' e cs
 | .mk k o n t args p,cs,h=>by
  rw[IsEx] at h ⊢;obtain⟨sl,row,hc,hr,ha⟩:=h;exact⟨sl,row,hc,hr.since s,Aj.since s ha⟩
theorem Aj.since{B:AS}{w w':World}(s:Since B w w'):∀{l:List Px.Ex} {cs:AR},Aj B w l cs->Aj B w' l cs
 | [],cs,h=>by rw[Aj] at h ⊢;exact h
 | e :: r,cs,h=>by
  rw[Aj] at h ⊢;obtain⟨c1,c2,hc,h1,h2⟩:=h;exact⟨c1,c2,hc,IsEx.since s h1,Aj.since s h2⟩
end
mutual
theorem IsSt.since{B:AS}{w w':World}(s:Since B w w'):∀{e:Px.St} {cs:AR},IsSt B w e cs->IsSt B w' e cs
 | .mk k n es b c p,cs,h=>by
  rw[IsSt] at h ⊢;obtain⟨s1,s2,s3,r1,r2,r3,hc,a1,a2,a3,a4,a5,a6⟩:=h;exact⟨s1,s2,s3,r1,r2,r3,hc,a1.since s,a2.since s,a3.since s,As.since s a4,a5.since s,As.since s a6⟩
theorem As.since{B:AS}{w w':World}(s:Since B w w'):∀{l:List Px.St} {cs:AR},As B w l cs->As B w' l cs
 | [],cs,h=>by rw[As] at h ⊢;exact h
 | e :: r,cs,h=>by
  rw[As] at h ⊢;obtain⟨c1,c2,hc,h1,h2⟩:=h;exact⟨c1,c2,hc,IsSt.since s h1,As.since s h2⟩
end
theorem Br.since{B:AS}{w w':World}(s:Since B w w'):∀{l:List Px.Fn} {cs:AR},Br B w l cs->Br B w' l cs
 | [],cs,h=>h
 | e :: r,cs,h=>by
  obtain⟨c1,c2,hc,⟨ps,bs,h1,h2,row,h3,h4⟩,h5⟩:=h;exact⟨c1,c2,hc,⟨ps,bs,h1,h2.since s,row,h3.since s,h4.since s⟩,Br.since s h5⟩
theorem Ec.since{B:AS}(s:Since B w w'){p:Px.Pr}(h:Ec B w p v):Ec B w' p v:=by
 obtain⟨ss,fs,hv,h1,row,h2,h3⟩:=h;exact⟨ss,fs,hv,h1.since s,row,h2.since s,h3.since s⟩
theorem IsEx.len{B:AS}{e:Px.Ex}(h:IsEx B w e cs):cs.length=8:=by
 cases e;rw[IsEx] at h;obtain⟨sl,row,hc,_⟩:=h;rw[hc];rfl
theorem IsSt.len{B:AS}{e:Px.St}(h:IsSt B w e cs):cs.length=9:=by
 cases e;rw[IsSt] at h;obtain⟨s1,s2,s3,r1,r2,r3,hc,_⟩:=h;rw[hc];rfl
theorem Eh.len{B:AS}{e:Px.Fn}(h:Eh B w e cs):cs.length=7:=by
 obtain⟨ps,bs,hc,_⟩:=h;rw[hc];rfl
theorem Aj.get{B:AS}{w:World}:∀{l:List Px.Ex} {row:AR} {i:Nat} {e:Px.Ex},Aj B w l row->l[i]?=some e->∃cs,IsEx B w e cs/\∀j,j<8->row[i*8+j]?=cs[j]?
 | [],row,i,e,h,hi=>by simp at hi
 | a :: r,row,0,e,h,hi=>by
  rw[Aj] at h;obtain⟨c1,c2,hc,h1,h2⟩:=h;simp at hi;subst hi;exact⟨c1,h1,λ j hj=>by rw[hc,List.getElem?_append_left (by have:=h1.len;omega)];simp⟩
 | a :: r,row,i+1,e,h,hi=>by
  rw[Aj] at h;obtain⟨c1,c2,hc,h1,h2⟩:=h;obtain⟨cs,k1,k2⟩:=Aj.get h2 (by simpa using hi);refine⟨cs,k1,λ j hj=>?_⟩;have:=h1.len;rw[hc,List.getElem?_append_right (by omega),<-k2 j hj];congr 1;omega
theorem As.get{B:AS}{w:World}:∀{l:List Px.St} {row:AR} {i:Nat} {e:Px.St},As B w l row->l[i]?=some e->∃cs,IsSt B w e cs/\∀j,j<9->row[i*9+j]?=cs[j]?
 | [],row,i,e,h,hi=>by simp at hi
 | a :: r,row,0,e,h,hi=>by
  rw[As] at h;obtain⟨c1,c2,hc,h1,h2⟩:=h;simp at hi;subst hi;exact⟨c1,h1,λ j hj=>by rw[hc,List.getElem?_append_left (by have:=h1.len;omega)];simp⟩
 | a :: r,row,i+1,e,h,hi=>by
  rw[As] at h;obtain⟨c1,c2,hc,h1,h2⟩:=h;obtain⟨cs,k1,k2⟩:=As.get h2 (by simpa using hi);refine⟨cs,k1,λ j hj=>?_⟩;have:=h1.len;rw[hc,List.getElem?_append_right (by omega),<-k2 j hj];congr 1;omega
theorem Br.get{B:AS}{w:World}:∀{l:List Px.Fn} {row:AR} {i:Nat} {e:Px.Fn},Br B w l row->l[i]?=some e->∃cs,Eh B w e cs/\∀j,j<7->row[i*7+j]?=cs[j]?
 | [],row,i,e,h,hi=>by simp at hi
 | a :: r,row,0,e,h,hi=>by
  obtain⟨c1,c2,hc,h1,h2⟩:=h;simp at hi;subst hi;exact⟨c1,h1,λ j hj=>by rw[hc,List.getElem?_append_left (by have:=h1.len;omega)];simp⟩
 | a :: r,row,i+1,e,h,hi=>by
  obtain⟨c1,c2,hc,h1,h2⟩:=h;obtain⟨cs,k1,k2⟩:=Br.get h2 (by simpa using hi);refine⟨cs,k1,λ j hj=>?_⟩;have:=h1.len;rw[hc,List.getElem?_append_right (by omega),<-k2 j hj];congr 1;omega
theorem Aj.snoc{B:AS}{w:World}:∀{l:List Px.Ex} {row:AR} {e:Px.Ex} {cs:AR},Aj B w l row->IsEx B w e cs->Aj B w (l ++ [e]) (row ++ cs)
 | [],row,e,cs,h,he=>by
  rw[Aj] at h;subst h;rw[nil_append,nil_append,Aj];exact⟨cs,[],by simp,he,by rw[Aj]⟩
 | a :: r,row,e,cs,h,he=>by
  rw[Aj] at h;obtain⟨c1,c2,hc,h1,h2⟩:=h;rw[cons_append,Aj];exact⟨c1,c2 ++ cs,by rw[hc];simp,h1,Aj.snoc h2 he⟩
theorem As.snoc{B:AS}{w:World}:∀{l:List Px.St} {row:AR} {e:Px.St} {cs:AR},As B w l row->IsSt B w e cs->As B w (l ++ [e]) (row ++ cs)
 | [],row,e,cs,h,he=>by
  rw[As] at h;subst h;rw[nil_append,nil_append,As];exact⟨cs,[],by simp,he,by rw[As]⟩
 | a :: r,row,e,cs,h,he=>by
  rw[As] at h;obtain⟨c1,c2,hc,h1,h2⟩:=h;rw[cons_append,As];exact⟨c1,c2 ++ cs,by rw[hc];simp,h1,As.snoc h2 he⟩
theorem Br.snoc{B:AS}{w:World}:∀{l:List Px.Fn} {row:AR} {e:Px.Fn} {cs:AR},Br B w l row->Eh B w e cs->Br B w (l ++ [e]) (row ++ cs)
 | [],row,e,cs,h,he=>by
  rw[Br] at h;subst h;exact⟨cs,[],by simp,he,rfl⟩
 | a :: r,row,e,cs,h,he=>by
  obtain⟨c1,c2,hc,h1,h2⟩:=h;exact⟨c1,c2 ++ cs,by rw[hc];simp,h1,Br.snoc h2 he⟩
theorem SlRow.cells{B:AS}{n:Nat}{row:AR}(h:SlRow B w sz v n row)(hn:0<n):∃g o cap,v=sL g o n cap/\n<=cap/\cap<=maxLen/\B g/\g<w.heap.size/\∀(j:Nat) (u:Value),row[j]?=some u->w.cell? ⟨g,o+j,none⟩=some u:=by
 rcases h.2 with⟨_,h0⟩ | h
 .omega
 .exact h
theorem SlRow.slice{B:AS}{n:Nat}{row:AR}(h:SlRow B w sz v n row):∃ao cap,v=.slice ao n cap/\n<=maxLen:=by
 rcases h.2 with⟨h1,h0⟩ | ⟨g,o,cap,h1,h2,h3,_⟩
 .exact⟨none,0,by rw[h1,h0],by omega⟩
 .exact⟨_,cap,h1,by omega⟩
mutual
theorem IsEx.base{B B':AS}{w:World}(hb:∀k,B k->B' k):∀{e:Px.Ex} {cs:AR},IsEx B w e cs->IsEx B' w e cs
 | .mk k o n t args p,cs,h=>by
  rw[IsEx] at h ⊢;obtain⟨sl,row,hc,hr,ha⟩:=h;exact⟨sl,row,hc,hr.base hb,Aj.base hb ha⟩
theorem Aj.base{B B':AS}{w:World}(hb:∀k,B k->B' k):∀{l:List Px.Ex} {cs:AR},Aj B w l cs->Aj B' w l cs
 | [],cs,h=>by rw[Aj] at h ⊢;exact h
 | e :: r,cs,h=>by
  rw[Aj] at h ⊢;obtain⟨c1,c2,hc,h1,h2⟩:=h;exact⟨c1,c2,hc,IsEx.base hb h1,Aj.base hb h2⟩
end
mutual
theorem IsSt.base{B B':AS}{w:World}(hb:∀k,B k->B' k):∀{e:Px.St} {cs:AR},IsSt B w e cs->IsSt B' w e cs
 | .mk k n es b c p,cs,h=>by
  rw[IsSt] at h ⊢;obtain⟨s1,s2,s3,r1,r2,r3,hc,a1,a2,a3,a4,a5,a6⟩:=h;exact⟨s1,s2,s3,r1,r2,r3,hc,a1.base hb,a2.base hb,a3.base hb,As.base hb a4,a5.base hb,As.base hb a6⟩
theorem As.base{B B':AS}{w:World}(hb:∀k,B k->B' k):∀{l:List Px.St} {cs:AR},As B w l cs->As B' w l cs
 | [],cs,h=>by rw[As] at h ⊢;exact h
 | e :: r,cs,h=>by
  rw[As] at h ⊢;obtain⟨c1,c2,hc,h1,h2⟩:=h;exact⟨c1,c2,hc,IsSt.base hb h1,As.base hb h2⟩
end
theorem Br.base{B B':AS}{w:World}(hb:∀k,B k->B' k):∀{l:List Px.Fn} {cs:AR},Br B w l cs->Br B' w l cs
 | [],cs,h=>h
 | e :: r,cs,h=>by
  obtain⟨c1,c2,hc,⟨ps,bs,h1,h2,row,h3,h4⟩,h5⟩:=h;exact⟨c1,c2,hc,⟨ps,bs,h1,SlRow.base h2 hb,row,h3.base hb,h4.base hb⟩,Br.base hb h5⟩
theorem Ec.base{B:AS}(hb:∀k,B k->B' k){p:Px.Pr}(h:Ec B w p v):Ec B' w p v:=by
 obtain⟨ss,fs,hv,h1,row,h2,h3⟩:=h;exact⟨ss,fs,hv,SlRow.base h1 hb,row,h2.base hb,h3.base hb⟩
structure Fo(b n:Nat)(w w':World):Prop where
 os:w'.os=w.os
 tape:w'.tape=w.tape
 output:w'.output=w.output
 size:w.heap.size<=w'.heap.size
 block:∀k,k<n->k≠b->w'.heap[k]?=w.heap[k]?
theorem Fo.refl(b n:Nat)(w:World):Fo b n w w:=⟨rfl,rfl,rfl,AD _,λ _ _ _=>rfl⟩
abbrev AV:=@Fo.refl
theorem Fo.trans{n:Nat}(h:Fo b n w w1)(k:Fo b n w1 w2):Fo b n w w2:=⟨k.os.trans h.os,k.tape.trans h.tape,k.output.trans h.output,AP h.size k.size,λ j h1 h2=>(k.block j h1 h2).trans (h.block j h1 h2)⟩
theorem Fo.mono{n:Nat}(h:Fo b n w w')(hm:m<=n):Fo b m w w':=⟨h.os,h.tape,h.output,h.size,λ j h1 h2=>h.block j (by omega) h2⟩
theorem Fo.of_below{n:Nat}(h:Below n w w'):Fo b n w w':=⟨h.os,h.tape,h.output,h.size,λ k h1 _=>h.block k h1⟩
abbrev AW:=@Fo.of_below
theorem Fo.set{n:Nat}(j:Nat)(v:Value):Fo b n w (w.setCell ⟨b,j,none⟩ v):=⟨rfl,rfl,rfl,by simp[World.setCell],λ k _ h=>AG _ _ _ _ h⟩
theorem Fo.drew(b n:Nat)(w:World):Fo b n w w.drew:=⟨rfl,rfl,rfl,AD _,λ _ _ _=>rfl⟩
abbrev AX:=@Fo.drew
theorem Fo.fresh{n:Nat}(h:Fo b n w w')(hg:n<=g)(j:Nat)(v:Value):Fo b n w (w'.setCell ⟨g,j,none⟩ v):=
 ⟨h.os,h.tape,h.output,by simpa [World.setCell] using h.size,λ k h1 h2=>(AG _ _ _ _ (by show k≠g;omega)).trans (h.block k h1 h2)⟩
theorem Fo.alloc{n:Nat}(h:Fo b n w w')(hn:n<=w'.heap.size)(o:Obj):Fo b n w (w'.alloc o):=h.trans (AW ((AF _ _).alloc hn _))
theorem Fo.below{n:Nat}(h:Fo b n w w1)(k:Below w1.heap.size w1 w2)(hn:n<=w1.heap.size):Fo b n w w2:=h.trans (AW (k.mono hn))
theorem Fo.call{n:Nat}(h:Fo b n w w1)(k:Fo b w1.heap.size w1 w2)(hn:n<=w1.heap.size):Fo b n w w2:=h.trans (k.mono hn)
theorem Fo.cell{n:Nat}(h:Fo b n w w'){o:Nat}(hg:g<n)(hn:g≠b):w'.cell? ⟨g,o,none⟩=w.cell? ⟨g,o,none⟩:=World.cell?_of_block (w:=w) (h.block g hg hn)
theorem Fo.since(h:Fo b w.heap.size w w')(hb:b<m):Since (From m) w w':=⟨h.size,λ k h1 h2=>h.block k h2 (by have:m<=k:=h1;omega)⟩
theorem Fo.sinceB{B:AS}(h:Fo b w.heap.size w w')(hb:¬B b):Since B w w':=⟨h.size,λ k h1 h2=>h.block k h2 (λ e=>hb (e ▸ h1))⟩
abbrev w3(w:World)(g:Nat)(x0 x1 x2:Value):World:=((w.setCell ⟨g,0,none⟩ x0).setCell ⟨g,1,none⟩ x1).setCell ⟨g,2,none⟩ x2
theorem Fo.set3{n:Nat}(h:Fo b n w w')(hg:n<=g)(x0 x1 x2:Value):Fo b n w (w3 w' g x0 x1 x2):=(((h.fresh hg 0 x0).fresh hg 1 x1).fresh hg 2 x2)
theorem Dw{n:Nat}(h:Below n w w')(hg:n<=g)(x0 x1 x2:Value):Below n w (w3 w' g x0 x1 x2):=(((h.setCell (p:=⟨g,0,none⟩) hg x0).setCell (p:=⟨g,1,none⟩) hg x1).setCell (p:=⟨g,2,none⟩) hg x2)
theorem C7{k:Nat}(hk:k≠g)(x0 x1 x2:Value):(w3 w g x0 x1 x2).heap[k]?=w.heap[k]?:=by
 simp only[w3];rw[Below.heap_setCell _ _ _ _ hk,Below.heap_setCell _ _ _ _ hk,Below.heap_setCell _ _ _ _ hk]
theorem J9(h:w.heap[g]?=some (.cells #[y0,y1,y2] T (0,0)))(x0 x1 x2:Value):(w3 w g x0 x1 x2).heap[g]?=some (.cells #[x0,x1,x2] T (0,0)):=by
 simp[w3,World.setCell,Array.getElem?_modify,h]
theorem F7(w:World)(g:Nat)(x0 x1 x2:Value):(w3 w g x0 x1 x2).heap.size=w.heap.size:=by simp[w3,World.setCell]
theorem Since.set3'{B:AS}(hg:¬B g)(x0 x1 x2:Value):Since B w (w3 w g x0 x1 x2):=⟨by rw[F7];exact AD _,λ k h1 _=>C7 (λ e=>hg (by rw[<-e];exact h1)) x0 x1 x2⟩
theorem Ag(h:w.heap[g]?=some (.cells #[y0,y1,y2] T (0,0))):w.cell? ⟨g,0,none⟩=some y0/\w.cell? ⟨g,1,none⟩=some y1/\w.cell? ⟨g,2,none⟩=some y2/\w.frozen? ⟨g,0,none⟩=false/\w.frozen? ⟨g,1,none⟩=false/\w.frozen? ⟨g,2,none⟩=false:=by
 refine⟨?_,?_,?_,?_,?_,?_⟩
 all_goals first | simp[World.cell?,h] | simp[World.frozen?,h]
abbrev w4(w:World)(g:Nat)(x0 x1 x2 x3:Value):World:=(((w.setCell ⟨g,0,none⟩ x0).setCell ⟨g,1,none⟩ x1).setCell ⟨g,2,none⟩ x2).setCell ⟨g,3,none⟩ x3
theorem Fo.set4{n:Nat}(h:Fo b n w w')(hg:n<=g)(x0 x1 x2 x3:Value):Fo b n w (w4 w' g x0 x1 x2 x3):=((((h.fresh hg 0 x0).fresh hg 1 x1).fresh hg 2 x2).fresh hg 3 x3)
theorem P5{k:Nat}(hk:k≠g)(x0 x1 x2 x3:Value):(w4 w g x0 x1 x2 x3).heap[k]?=w.heap[k]?:=by
 simp only[w4];rw[Below.heap_setCell _ _ _ _ hk,Below.heap_setCell _ _ _ _ hk,Below.heap_setCell _ _ _ _ hk,Below.heap_setCell _ _ _ _ hk]
theorem Ag9(w:World)(g:Nat)(x0 x1 x2 x3:Value):(w4 w g x0 x1 x2 x3).heap.size=w.heap.size:=by simp[w4,World.setCell]
theorem cells_of4(h:w.heap[g]?=some (.cells #[y0,y1,y2,y3] T (0,0))):w.cell? ⟨g,0,none⟩=some y0/\w.cell? ⟨g,1,none⟩=some y1/\w.cell? ⟨g,2,none⟩=some y2/\w.cell? ⟨g,3,none⟩=some y3/\w.frozen? ⟨g,0,none⟩=false/\w.frozen? ⟨g,1,none⟩=false/\w.frozen? ⟨g,2,none⟩=false/\w.frozen? ⟨g,3,none⟩=false:=by
 refine⟨?_,?_,?_,?_,?_,?_,?_,?_⟩
 all_goals first | simp[World.cell?,h] | simp[World.frozen?,h]
abbrev w7(w:World)(g:Nat)(x0 x1 x2 x3 x4 x5 x6:Value):World:=((((((w.setCell ⟨g,0,none⟩ x0).setCell ⟨g,1,none⟩ x1).setCell ⟨g,2,none⟩ x2).setCell ⟨g,3,none⟩ x3).setCell ⟨g,4,none⟩ x4).setCell ⟨g,5,none⟩ x5).setCell ⟨g,6,none⟩ x6
theorem Fo.set7{n:Nat}(h:Fo b n w w')(hg:n<=g)(x0 x1 x2 x3 x4 x5 x6:Value):Fo b n w (w7 w' g x0 x1 x2 x3 x4 x5 x6):=(((((((h.fresh hg 0 x0).fresh hg 1 x1).fresh hg 2 x2).fresh hg 3 x3).fresh hg 4 x4).fresh hg 5 x5).fresh hg 6 x6)
theorem Ka{k:Nat}(hk:k≠g)(x0 x1 x2 x3 x4 x5 x6:Value):(w7 w g x0 x1 x2 x3 x4 x5 x6).heap[k]?=w.heap[k]?:=by
 simp only[w7];rw[Below.heap_setCell _ _ _ _ hk,Below.heap_setCell _ _ _ _ hk,Below.heap_setCell _ _ _ _ hk,Below.heap_setCell _ _ _ _ hk,Below.heap_setCell _ _ _ _ hk,Below.heap_setCell _ _ _ _ hk,Below.heap_setCell _ _ _ _ hk]
theorem Uy(w:World)(g:Nat)(x0 x1 x2 x3 x4 x5 x6:Value):(w7 w g x0 x1 x2 x3 x4 x5 x6).heap.size=w.heap.size:=by simp[w7,World.setCell]
theorem Since.set7'{B:AS}(hg:¬B g)(x0 x1 x2 x3 x4 x5 x6:Value):Since B w (w7 w g x0 x1 x2 x3 x4 x5 x6):=⟨by rw[Uy];exact AD _,λ k h1 _=>Ka (λ e=>hg (by rw[<-e];exact h1)) x0 x1 x2 x3 x4 x5 x6⟩
theorem A9{y6:Value}(h:w.heap[g]?=some (.cells #[y0,y1,y2,y3,y4,y5,y6] T (0,0))):w.cell? ⟨g,0,none⟩=some y0/\w.cell? ⟨g,1,none⟩=some y1/\w.cell? ⟨g,2,none⟩=some y2/\w.cell? ⟨g,3,none⟩=some y3/\w.cell? ⟨g,4,none⟩=some y4/\w.cell? ⟨g,5,none⟩=some y5/\w.cell? ⟨g,6,none⟩=some y6/\w.frozen? ⟨g,0,none⟩=false/\w.frozen? ⟨g,1,none⟩=false/\w.frozen? ⟨g,2,none⟩=false/\w.frozen? ⟨g,3,none⟩=false/\w.frozen? ⟨g,4,none⟩=false/\w.frozen? ⟨g,5,none⟩=false/\w.frozen? ⟨g,6,none⟩=false:=by
 refine⟨?_,?_,?_,?_,?_,?_,?_,?_,?_,?_,?_,?_,?_,?_⟩
 all_goals first | simp[World.cell?,h] | simp[World.frozen?,h]
abbrev w8(w:World)(g:Nat)(x0 x1 x2 x3 x4 x5 x6 x7:Value):World:=(((((((w.setCell ⟨g,0,none⟩ x0).setCell ⟨g,1,none⟩ x1).setCell ⟨g,2,none⟩ x2).setCell ⟨g,3,none⟩ x3).setCell ⟨g,4,none⟩ x4).setCell ⟨g,5,none⟩ x5).setCell ⟨g,6,none⟩ x6).setCell ⟨g,7,none⟩ x7
theorem Fo.set8{n:Nat}(h:Fo b n w w')(hg:n<=g)(x0 x1 x2 x3 x4 x5 x6 x7:Value):Fo b n w (w8 w' g x0 x1 x2 x3 x4 x5 x6 x7):=((((((((h.fresh hg 0 x0).fresh hg 1 x1).fresh hg 2 x2).fresh hg 3 x3).fresh hg 4 x4).fresh hg 5 x5).fresh hg 6 x6).fresh hg 7 x7)
theorem Hj{k:Nat}(hk:k≠g)(x0 x1 x2 x3 x4 x5 x6 x7:Value):(w8 w g x0 x1 x2 x3 x4 x5 x6 x7).heap[k]?=w.heap[k]?:=by
 simp only[w8];rw[Below.heap_setCell _ _ _ _ hk,Below.heap_setCell _ _ _ _ hk,Below.heap_setCell _ _ _ _ hk,Below.heap_setCell _ _ _ _ hk,Below.heap_setCell _ _ _ _ hk,Below.heap_setCell _ _ _ _ hk,Below.heap_setCell _ _ _ _ hk,Below.heap_setCell _ _ _ _ hk]
theorem An6{y6 y7:Value}(h:w.heap[g]?=some (.cells #[y0,y1,y2,y3,y4,y5,y6,y7] T (0,0)))(x0 x1 x2 x3 x4 x5 x6 x7:Value):(w8 w g x0 x1 x2 x3 x4 x5 x6 x7).heap[g]?=some (.cells #[x0,x1,x2,x3,x4,x5,x6,x7] T (0,0)):=by
 simp[w8,World.setCell,Array.getElem?_modify,h]
theorem Oa(w:World)(g:Nat)(x0 x1 x2 x3 x4 x5 x6 x7:Value):(w8 w g x0 x1 x2 x3 x4 x5 x6 x7).heap.size=w.heap.size:=by simp[w8,World.setCell]
theorem Since.set8'{B:AS}(hg:¬B g)(x0 x1 x2 x3 x4 x5 x6 x7:Value):Since B w (w8 w g x0 x1 x2 x3 x4 x5 x6 x7):=⟨by rw[Oa];exact AD _,λ k h1 _=>Hj (λ e=>hg (by rw[<-e];exact h1)) x0 x1 x2 x3 x4 x5 x6 x7⟩
theorem Ab{y6 y7:Value}(h:w.heap[g]?=some (.cells #[y0,y1,y2,y3,y4,y5,y6,y7] T (0,0))):w.cell? ⟨g,0,none⟩=some y0/\w.cell? ⟨g,1,none⟩=some y1/\w.cell? ⟨g,2,none⟩=some y2/\w.cell? ⟨g,3,none⟩=some y3/\w.cell? ⟨g,4,none⟩=some y4/\w.cell? ⟨g,5,none⟩=some y5/\w.cell? ⟨g,6,none⟩=some y6/\w.cell? ⟨g,7,none⟩=some y7/\w.frozen? ⟨g,0,none⟩=false/\w.frozen? ⟨g,1,none⟩=false/\w.frozen? ⟨g,2,none⟩=false/\w.frozen? ⟨g,3,none⟩=false/\w.frozen? ⟨g,4,none⟩=false/\w.frozen? ⟨g,5,none⟩=false/\w.frozen? ⟨g,6,none⟩=false/\w.frozen? ⟨g,7,none⟩=false:=by
 refine⟨?_,?_,?_,?_,?_,?_,?_,?_,?_,?_,?_,?_,?_,?_,?_,?_⟩
 all_goals first | simp[World.cell?,h] | simp[World.frozen?,h]
abbrev w9(w:World)(g:Nat)(x0 x1 x2 x3 x4 x5 x6 x7 x8:Value):World:=((((((((w.setCell ⟨g,0,none⟩ x0).setCell ⟨g,1,none⟩ x1).setCell ⟨g,2,none⟩ x2).setCell ⟨g,3,none⟩ x3).setCell ⟨g,4,none⟩ x4).setCell ⟨g,5,none⟩ x5).setCell ⟨g,6,none⟩ x6).setCell ⟨g,7,none⟩ x7).setCell ⟨g,8,none⟩ x8
theorem Fo.set9{n:Nat}(h:Fo b n w w')(hg:n<=g)(x0 x1 x2 x3 x4 x5 x6 x7 x8:Value):Fo b n w (w9 w' g x0 x1 x2 x3 x4 x5 x6 x7 x8):=(((((((((h.fresh hg 0 x0).fresh hg 1 x1).fresh hg 2 x2).fresh hg 3 x3).fresh hg 4 x4).fresh hg 5 x5).fresh hg 6 x6).fresh hg 7 x7).fresh hg 8 x8)
theorem Kb{k:Nat}(hk:k≠g)(x0 x1 x2 x3 x4 x5 x6 x7 x8:Value):(w9 w g x0 x1 x2 x3 x4 x5 x6 x7 x8).heap[k]?=w.heap[k]?:=by
 simp only[w9];rw[Below.heap_setCell _ _ _ _ hk,Below.heap_setCell _ _ _ _ hk,Below.heap_setCell _ _ _ _ hk,Below.heap_setCell _ _ _ _ hk,Below.heap_setCell _ _ _ _ hk,Below.heap_setCell _ _ _ _ hk,Below.heap_setCell _ _ _ _ hk,Below.heap_setCell _ _ _ _ hk,Below.heap_setCell _ _ _ _ hk]
theorem Uz(w:World)(g:Nat)(x0 x1 x2 x3 x4 x5 x6 x7 x8:Value):(w9 w g x0 x1 x2 x3 x4 x5 x6 x7 x8).heap.size=w.heap.size:=by simp[w9,World.setCell]
theorem Since.set9'{B:AS}(hg:¬B g)(x0 x1 x2 x3 x4 x5 x6 x7 x8:Value):Since B w (w9 w g x0 x1 x2 x3 x4 x5 x6 x7 x8):=⟨by rw[Uz];exact AD _,λ k h1 _=>Kb (λ e=>hg (by rw[<-e];exact h1)) x0 x1 x2 x3 x4 x5 x6 x7 x8⟩
theorem Ad{y6 y7 y8:Value}(h:w.heap[g]?=some (.cells #[y0,y1,y2,y3,y4,y5,y6,y7,y8] T (0,0))):w.cell? ⟨g,0,none⟩=some y0/\w.cell? ⟨g,1,none⟩=some y1/\w.cell? ⟨g,2,none⟩=some y2/\w.cell? ⟨g,3,none⟩=some y3/\w.cell? ⟨g,4,none⟩=some y4/\w.cell? ⟨g,5,none⟩=some y5/\w.cell? ⟨g,6,none⟩=some y6/\w.cell? ⟨g,7,none⟩=some y7/\w.cell? ⟨g,8,none⟩=some y8/\w.frozen? ⟨g,0,none⟩=false/\w.frozen? ⟨g,1,none⟩=false/\w.frozen? ⟨g,2,none⟩=false/\w.frozen? ⟨g,3,none⟩=false/\w.frozen? ⟨g,4,none⟩=false/\w.frozen? ⟨g,5,none⟩=false/\w.frozen? ⟨g,6,none⟩=false/\w.frozen? ⟨g,7,none⟩=false/\w.frozen? ⟨g,8,none⟩=false:=by
 refine⟨?_,?_,?_,?_,?_,?_,?_,?_,?_,?_,?_,?_,?_,?_,?_,?_,?_,?_⟩
 all_goals first | simp[World.cell?,h] | simp[World.frozen?,h]
def Ar8(w:World)(ga o:Nat)(l:List Lx.Tok):Prop:=∀(k:Nat) (t:Lx.Tok),l[k]?=some t->w.cell? ⟨ga,o+k*4,none⟩=some (iv t.kind)/\w.cell? ⟨ga,o+k*4+1,none⟩=some (.string ⟨t.text.toArray⟩)/\w.cell? ⟨ga,o+k*4+2,none⟩=some (iv t.num)/\w.cell? ⟨ga,o+k*4+3,none⟩=some (iv t.place)
structure Ps(b ga:Nat)(l:List Lx.Tok)(w:World):Prop where
 good:Px.Good l
 tidy:∀t∈l,Wm t
 mem:∃o c,w.heap[b]?=some (.cells #[sL ga o l.length c] 55 (0,0))/\l.length<=c/\c<=maxLen/\Ar8 w ga o l
 gl:ga<w.heap.size
 ne:ga≠b
 few:l.length<=4096
theorem Ps.there{l:List Lx.Tok}(h:Ps b ga l w):b<w.heap.size:=by
 obtain⟨o,c,hb,_⟩:=h.mem;exact (AB hb).1
theorem Ps.head{l:List Lx.Tok}(h:Ps b ga l w):∃t r,l=t :: r/\Wm t:=by
 match l,h.good,h.tidy with
 | t :: r,_,ht=>exact⟨t,r,rfl,ht t (by simp)⟩
theorem Ps.keep{l:List Lx.Tok}(h:Ps b ga l w)(hb:w'.heap[b]?=w.heap[b]?)(hg:w'.heap[ga]?=w.heap[ga]?)(hs:w.heap.size<=w'.heap.size):Ps b ga l w':=by
 obtain⟨o,c,h1,h2,h3,h4⟩:=h.mem;refine⟨h.good,h.tidy,⟨o,c,hb.trans h1,h2,h3,λ k t hk=>?_⟩,AL h.gl hs,h.ne,h.few⟩;have hc:∀j,w'.cell? ⟨ga,j,none⟩=w.cell? ⟨ga,j,none⟩:=λ j=>World.cell?_of_block (w:=w) hg
 rw[hc,hc,hc,hc];exact h4 k t hk
theorem Ps.below{l:List Lx.Tok}(h:Ps b ga l w)(f:Below w.heap.size w w'):Ps b ga l w':=h.keep (f.block b h.there) (f.block ga h.gl) f.size
theorem Ps.other{l:List Lx.Tok}(h:Ps b ga l w)(j:Nat)(v:Value)(h1:g≠b)(h2:g≠ga):Ps b ga l (w.setCell ⟨g,j,none⟩ v):=
 h.keep (AG _ _ _ _ (λ e=>h1 e.symm)) (AG _ _ _ _ (λ e=>h2 e.symm)) (by simp[World.setCell])
theorem Ps.alloc{l:List Lx.Tok}(h:Ps b ga l w)(o:Obj):Ps b ga l (w.alloc o):=h.below ((AF _ _).alloc (AD _) _)
theorem Ps.cells{t:Lx.Tok}{r:List Lx.Tok}(h:Ps b ga (t :: r) w):∃o c,w.cell? ⟨b,0,none⟩=some (sL ga o (r.length+1) c)/\r.length+1<=c/\c<=maxLen/\w.frozen? ⟨b,0,none⟩=false /\
  w.cell? ⟨ga,o,none⟩=some (iv t.kind)/\w.cell? ⟨ga,o+1,none⟩=some (.string ⟨t.text.toArray⟩)/\w.cell? ⟨ga,o+2,none⟩=some (iv t.num)/\w.cell? ⟨ga,o+3,none⟩=some (iv t.place) /\
  (t.kind≠5->∀w',w'.heap[b]?=some (.cells #[sL ga (o+4) r.length (c - 1)] 55 (0,0))->Fo b w.heap.size w w'->Ps b ga r w'):=by
 obtain⟨o,c,h1,h2,h3,h4⟩:=h.mem;have h0:=h4 0 t rfl;simp only[Nat.zero_mul,Nat.add_zero] at h0;refine⟨o,c,by simp[World.cell?,h1],by simpa using h2,h3,by simp[World.frozen?,h1],h0.1,h0.2.1,h0.2.2.1,h0.2.2.2,?_⟩;intro hk w' hb hf;have a0:=h.few;simp only[length_cons] at a0 h2;refine⟨h.good.tail hk,λ u hu=>h.tidy u (by simp[hu]),⟨o+4,c - 1,hb,by omega,by omega,λ k u hu=>?_⟩,AL h.gl hf.size,h.ne,by omega⟩;have:=h4 (k+1) u (by simpa using hu);have hc:∀j,w'.cell? ⟨ga,j,none⟩=w.cell? ⟨ga,j,none⟩:=λ j=>hf.cell h.gl h.ne
 rw[hc,hc,hc,hc];rw[show o+4+k*4=o+(k+1)*4 by omega];exact this
theorem Ps.set3{l:List Lx.Tok}(h:Ps b ga l w)(h1:g≠b)(h2:g≠ga)(x0 x1 x2:Value):Ps b ga l (w3 w g x0 x1 x2):=h.keep (C7 (λ e=>h1 e.symm) x0 x1 x2) (C7 (λ e=>h2 e.symm) x0 x1 x2) (by rw[F7];exact AD _)
theorem Ps.set4{l:List Lx.Tok}(h:Ps b ga l w)(h1:g≠b)(h2:g≠ga)(x0 x1 x2 x3:Value):Ps b ga l (w4 w g x0 x1 x2 x3):=h.keep (P5 (λ e=>h1 e.symm) x0 x1 x2 x3) (P5 (λ e=>h2 e.symm) x0 x1 x2 x3) (by rw[Ag9];exact AD _)
theorem Ps.set7{l:List Lx.Tok}(h:Ps b ga l w)(h1:g≠b)(h2:g≠ga)(x0 x1 x2 x3 x4 x5 x6:Value):Ps b ga l (w7 w g x0 x1 x2 x3 x4 x5 x6):=h.keep (Ka (λ e=>h1 e.symm) x0 x1 x2 x3 x4 x5 x6) (Ka (λ e=>h2 e.symm) x0 x1 x2 x3 x4 x5 x6) (by rw[Uy];exact AD _)
theorem Ps.set8{l:List Lx.Tok}(h:Ps b ga l w)(h1:g≠b)(h2:g≠ga)(x0 x1 x2 x3 x4 x5 x6 x7:Value):Ps b ga l (w8 w g x0 x1 x2 x3 x4 x5 x6 x7):=h.keep (Hj (λ e=>h1 e.symm) x0 x1 x2 x3 x4 x5 x6 x7) (Hj (λ e=>h2 e.symm) x0 x1 x2 x3 x4 x5 x6 x7) (by rw[Oa];exact AD _)
theorem Ps.set9{l:List Lx.Tok}(h:Ps b ga l w)(h1:g≠b)(h2:g≠ga)(x0 x1 x2 x3 x4 x5 x6 x7 x8:Value):Ps b ga l (w9 w g x0 x1 x2 x3 x4 x5 x6 x7 x8):=h.keep (Kb (λ e=>h1 e.symm) x0 x1 x2 x3 x4 x5 x6 x7 x8) (Kb (λ e=>h2 e.symm) x0 x1 x2 x3 x4 x5 x6 x7 x8) (by rw[Uz];exact AD _)
theorem heap_new(w:World)(o:Obj):(w.alloc o).heap[w.heap.size]?=some o:=by
 show (w.heap.push _)[w.heap.size]?=_;rw[Array.getElem?_push,if_pos rfl]
def Bl(a e:Nat):List PanicEntry:=[{ v:=.iface 88 (.agg #[iv a,iv e]),recovered:=false }]
def Cn(b ga:Nat){α:Type}(w:World)(r:Px.R α)(V:α->Value->World->Prop)(e:Ending)(w':World):Prop:=
 match r with
 | .inl (x,l')=>∃v,e=.returned v/\V x v w'/\Ps b ga l' w'/\Fo b w.heap.size w w'
 | .inr (a,er)=>e=.panicked (Bl a er)/\Fo b w.heap.size w w'
theorem Yv{a:AQ}(h:¬a=x):((⟨a.toArray⟩:ByteArray).toList == (⟨x.toArray⟩:ByteArray).toList)=false:=by
 rw[ByteArray.toList_eq,ByteArray.toList_eq];simp;exact h
theorem Yw(x:AQ):((⟨x.toArray⟩:ByteArray).toList == (⟨x.toArray⟩:ByteArray).toList)=true:=by simp
theorem Ah0(x:Lx.B):cls x≠3:=by
 match x with
 | []=>decide
 | c :: _=>simp only[cls];(repeat' split);all_goals decide
theorem Ah1{x:Lx.B}(h:x≠[]):cls x≠5:=by
 match x,h with
 | c :: _,_=>simp only[cls];(repeat' split);all_goals decide
theorem B9{t:Lx.Tok}{r:List Lx.Tok}(h:Ps b ga (t :: r) w) :
  AA 43 #[pt b 0] w λ e w'=>e=.returned (.agg #[iv t.kind,.string ⟨t.text.toArray⟩,iv t.num,iv t.place])/\Below w.heap.size w w':=by
 have hb:=h.there;have hg:=h.gl;have a0:=h.few;simp only[length_cons] at a0;obtain⟨o,c,c0,a4,a3,f0,x0,x1,x2,x3,_⟩:=h.cells;clear h;go_enter func43,ntmps43;go_wp2;refine bodyPost_ret (v:=Cv t.kind ⟨t.text.toArray⟩ t.num t.place) (by simp[results,results43,go_sem]) rfl ⟨rfl,?_⟩;exact (AF _ _).alloc (AD _) _
end
section
namespace Ck
open Lx (B)
open Px (Ex St Sl Pr)
inductive CE where
 | mk (kind op num:Nat) (text:B) (slot:Nat) (type:B) (args:List CE)
inductive CS where
 | mk (kind slot:Nat) (state:Bool) (num:Nat) (es:List CE) (body other:List CS)
structure CF where
 name:B
 on:Bool
 params:List (B × B)
 result:B
 locals:List B
 body:List CS
structure CP where
 version:Nat
 states:List (B × B)
 fns:List CF
def CE.type:CE->B
 | .mk _ _ _ _ _ t _=>t
structure Mng where
 kind:Nat
 slot:Nat
 type:B
def Mng.no:Mng:=⟨0,0,[]⟩
abbrev Env:=List (B × Mng)
def look:Env->B->Mng
 | [],_=>.no
 |(n,m) :: r,x=>if n=x then m else look r x
abbrev R(α:Type):=α ⊕ (Nat × Nat)
def bind{α β:Type}(r:R α)(f:α->R β):R β:=
 match r with
 | .inl x=>f x
 | .inr e=>.inr e
def need(b:Bool)(p e:Nat):R Unit:=if b then .inl () else .inr (p,e)
def tInt:B:=[105,110,116]
def tBool:B:=[98,111,111,108]
def tText:B:=[116,101,120,116]
def bkind(s:B):Nat:=if s=[108,101,110] then 8 else if s=[104,97,115] then 9 else if s=[112,117,115,104] then 10 else if s=[115,116,114] then 11 else 0
def within(t:B):B × B × Bool:=if (Vv.elT t).2 then (tInt,(Vv.elT t).1,true) else Vv.mpT t
def sig(k:Nat)(t:B):B × B × Bool:=
 if k=8 then (tInt,[],(within t).2.2 || t == tText)
 else if k=9 then (tBool,(Vv.mpT t).1,(Vv.mpT t).2.2)
 else if k=10 then (t,(Vv.elT t).1,(Vv.elT t).2)
 else (tText,[],t == tInt)
def operated(op:Nat)(t:B):B × Bool:=
 if op=1\/op=2 then (t,t == tBool)
 else if op=3\/op=4 then (tBool,true)
 else if op=5\/op=6\/op=7\/op=8 then (tBool,t == tInt || t == tText)
 else if op=9 then (t,t == tInt || t == tText)
 else (t,t == tInt)
structure Hd where
 on:Bool
 params:List B
 result:B
structure Cx where
 env:Env
 number:Nat
 heads:List Hd
abbrev Q:=R CE × Nat
def asked(q:Q)(t:B):R CE:=bind q.1 λ x=>bind (need (x.type == t) q.2 35) λ _=>.inl x
def arg(qs:List Q)(i:Nat):Q:=qs.getD i (.inr (0,0),0)
def all:List Q->List B->R (List CE)
 | q :: qs,t :: ts=>bind (asked q t) λ x=>bind (all qs ts) λ xs=>.inl (x :: xs)
 | _,_=>.inl []
def name(c:Cx)(t:B)(p:Nat):R CE:=
 let m:=look c.env t
 bind (need (m.kind != 0 && m.kind != 2) p 33) λ _=>.inl (.mk (if m.kind=1 then 5 else 4) 0 0 [] m.slot m.type [])
def call(c:Cx)(t:B)(p:Nat)(qs:List Q):R CE:=
 let m:=look c.env t
 bind (need (m.kind == 2 && decide (m.slot<c.number)) p 33) λ _=>
 let f:=c.heads.getD m.slot ⟨false,[],[]⟩
 bind (need (!f.on) p 33) λ _=>
 bind (need (qs.length == f.params.length) p 35) λ _=>
 bind (all qs f.params) λ xs=>.inl (.mk 7 0 0 [] m.slot f.result xs)
def pair(k:Nat):Bool:=k == 9 || k == 10
def builtin(t:B)(p:Nat)(qs:List Q):R CE:=
 let k:=bkind t
 bind (need (qs.length == 1 && !pair k || qs.length == 2 && pair k) p 35) λ _=>
 bind (arg qs 0).1 λ x=>
 bind (need (sig k x.type).2.2 (arg qs 0).2 35) λ _=>
 if pair k then bind (asked (arg qs 1) (sig k x.type).2.1) λ y=>.inl (.mk k 0 0 [] 0 (sig k x.type).1 [x,y])
 else .inl (.mk k 0 0 [] 0 (sig k x.type).1 [x])
def at_(p:Nat)(qs:List Q):R CE:=
 bind (arg qs 0).1 λ x=>
 bind (need (within x.type).2.2 p 35) λ _=>
 bind (asked (arg qs 1) (within x.type).1) λ y=>.inl (.mk 12 0 0 [] 0 (within x.type).2.1 [x,y])
def unary(k:Nat)(t:B)(qs:List Q):R CE:=bind (asked (arg qs 0) t) λ x=>.inl (.mk k 0 0 [] 0 t [x])
def binary(k o p:Nat)(qs:List Q):R CE:=
 bind (arg qs 0).1 λ x=>
 bind (arg qs 1).1 λ y=>
 bind (need ((operated o x.type).2 && x.type == y.type) p 35) λ _=>.inl (.mk k o 0 [] 0 (operated o x.type).1 [x,y])
def comb(c:Cx)(k o n:Nat)(t:B)(p:Nat)(qs:List Q):R CE:=
 if k=1 then .inl (.mk 1 0 n [] 0 tInt [])
 else if k=2 then .inl (.mk 2 0 n [] 0 tBool [])
 else if k=3 then .inl (.mk 3 0 0 t 0 tText [])
 else if k=6 then name c t p
 else if k=7 then (if bkind t=0 then call c t p qs else builtin t p qs)
 else if k=12 then at_ p qs
 else if k=13 then unary k tInt qs
 else if k=14 then unary k tBool qs
 else binary k o p qs
mutual
def cE(c:Cx):Ex->R CE
 | .mk k o n t args p=>comb c k o n t p (cEs c args)
def cEs(c:Cx):List Ex->List Q
 | []=>[]
 | .mk k o n t args p :: r=>(cE c (.mk k o n t args p),p) :: cEs c r
end
def plc:Ex->Nat
 | .mk _ _ _ _ _ p=>p
theorem cEs_length(c:Cx):∀l,(cEs c l).length=l.length
 | []=>by simp[cEs]
 | .mk k o n t args p :: r=>by simp[cEs,cEs_length c r]
theorem cEs_get(c:Cx):∀(l:List Ex) (i:Nat) (x:Ex),l[i]?=some x->(cEs c l)[i]?=some (cE c x,plc x)
 | [],i,x,h=>by simp at h
 | .mk k o n t args p :: r,0,x,h=>by
  simp at h;subst h;simp[cEs,plc]
 | .mk k o n t args p :: r,i+1,x,h=>by
  simp at h;simp[cEs];exact cEs_get c r i x h
theorem arg_get(c:Cx)(l:List Ex)(i:Nat)(x:Ex)(h:l[i]?=some x):arg (cEs c l) i=(cE c x,plc x):=by
 unfold arg;rw[getD_eq_getElem?_getD,cEs_get c l i x h];rfl
structure Kx where
 number:Nat
 heads:List Hd
 result:B
def Kx.at(k:Kx)(env:Env):Cx:=⟨env,k.number,k.heads⟩
def note(env:Env)(n:B)(p:Nat)(m:Mng):R Env:=bind (need (bkind n == 0 && (look env n).kind == 0) p 34) λ _=>.inl (env ++ [(n,m)])
def loc(env:Env)(ls:List B)(n:B)(p kind:Nat)(t:B):R (Env × List B):=
 bind (note env n p ⟨kind,ls.length,t⟩) λ e=>bind (need (decide (ls.length<32)) p 36) λ _=>.inl (e,ls ++ [t])
def targ(env:Env)(n:B)(p:Nat):R Mng:=
 let m:=look env n
 bind (need (m.kind != 0) p 33) λ _=>bind (need (m.kind == 3 || m.kind == 1) p 37) λ _=>.inl m
abbrev St1:=CS × Env × List B
mutual
def cS(k:Kx)(env:Env)(ls:List B):St->R St1
 | .mk kind n es body other p=>
  let qs:=cEs (k.at env) es
  if kind=1 then
   bind (arg qs 0).1 λ x=>bind (loc env ls n p 3 x.type) λ e=>.inl (.mk 1 ls.length false 0 [x] [] [],e.1,e.2)
  else if kind=2 then
   bind (targ env n p) λ m=>
   if es.length=1 then bind (asked (arg qs 0) m.type) λ x=>.inl (.mk 2 m.slot (m.kind == 1) 0 [x] [] [],env,ls)
   else bind (need (within m.type).2.2 p 35) λ _=>
    bind (asked (arg qs 0) (within m.type).1) λ x=>bind (asked (arg qs 1) (within m.type).2.1) λ y=>.inl (.mk 2 m.slot (m.kind == 1) 0 [x,y] [] [],env,ls)
  else if kind=3 then
   bind (targ env n p) λ m=>bind (need (Vv.mpT m.type).2.2 p 35) λ _=>
    bind (asked (arg qs 0) (Vv.mpT m.type).1) λ x=>.inl (.mk 3 m.slot (m.kind == 1) 0 [x] [] [],env,ls)
  else if kind=4 then
   bind (asked (arg qs 0) tBool) λ x=>bind (cSs k env ls body) λ a=>bind (cSs k env a.2.2 other) λ b=>.inl (.mk 4 0 false 0 [x] a.1 b.1,env,b.2.2)
  else if kind=5 then
   bind (asked (arg qs 0) tInt) λ x=>bind (loc env ls n p 4 tInt) λ e=>bind (cSs k e.1 e.2 body) λ a=>.inl (.mk 5 ls.length false 0 [x] a.1 [],env,a.2.2)
  else bind (asked (arg qs 0) k.result) λ x=>.inl (.mk kind 0 false 0 [x] [] [],env,ls)
def cSs(k:Kx)(env:Env)(ls:List B):List St->R (List CS × Env × List B)
 | []=>.inl ([],env,ls)
 | s :: r=>bind (cS k env ls s) λ a=>bind (cSs k a.2.1 a.2.2 r) λ b=>.inl (a.1 :: b.1,b.2.1,b.2.2)
end
def states(env:Env):Nat->List Sl->R Env
 | _,[]=>.inl env
 | i,s :: r=>bind (need (decide (i<32)) s.place 36) λ _=>bind (note env s.name s.place ⟨1,i,s.type⟩) λ e=>states e (i+1) r
def params:Nat->List Sl->R Unit
 | _,[]=>.inl ()
 | j,s :: r=>bind (need (decide (j<8)) s.place 36) λ _=>params (j+1) r
def fns(env:Env):Nat->List Px.Fn->R Env
 | _,[]=>.inl env
 | i,f :: r=>bind (need (decide (i<32)) f.place 36) λ _=>bind (note env f.name f.place ⟨2,i,[]⟩) λ e=>bind (params 0 f.params) λ _=>fns e (i+1) r
def slots(l:List Sl):List (B × B):=l.map λ s=>(s.name,s.type)
def hd(f:Px.Fn):Hd:=⟨f.on,f.params.map (·.type),f.result⟩
def locs(env:Env)(ls:List B):List Sl->R (Env × List B)
 | []=>.inl (env,ls)
 | s :: r=>bind (loc env ls s.name s.place 3 s.type) λ e=>locs e.1 e.2 r
def fn(hs:List Hd)(env:Env)(i:Nat)(f:Px.Fn):R CF:=
 bind (locs env [] f.params) λ e=>bind (cSs ⟨i,hs,f.result⟩ e.1 e.2 f.body) λ a=>.inl ⟨f.name,f.on,slots f.params,f.result,a.2.2,a.1⟩
def bodies(hs:List Hd)(env:Env):Nat->List Px.Fn->R (List CF)
 | _,[]=>.inl []
 | i,f :: r=>bind (fn hs env i f) λ x=>bind (bodies hs env (i+1) r) λ xs=>.inl (x :: xs)
def check(p:Pr):R CP:=
 bind (need (decide (1<=p.version) && decide (p.version<=1099511627776)) 0 61) λ _=>
 bind (states [] 0 p.states) λ e1=>bind (fns e1 0 p.fns) λ e2=>
 bind (bodies (p.fns.map hd) e2 0 p.fns) λ fs=>.inl ⟨p.version,slots p.states,fs⟩
end Ck
end
section
open Go.RowKit
open Ck (CE CS CF CP Mng Env)
mutual
def Cl(B:AS)(w:World):CE->List Value->Prop
 | .mk k o n t s y args,cs=>∃sl row,cs=[iv k,iv o,iv n,.string ⟨t.toArray⟩,iv s,.string ⟨y.toArray⟩,sl,iv 0]/\SlRow B w 8 sl args.length row/\Aw B w args row
def Aw(B:AS)(w:World):List CE->List Value->Prop
 | [],cs=>cs=[]
 | e :: r,cs=>∃c1 c2,cs=c1 ++ c2/\Cl B w e c1/\Aw B w r c2
end
mutual
def Co(B:AS)(w:World):CS->List Value->Prop
 | .mk k s f n es b c,cs=>∃s1 s2 s3 r1 r2 r3,cs=[iv k,sE,iv s,.bool f,iv n,s1,s2,s3,iv 0]/\SlRow B w 8 s1 es.length r1/\Aw B w es r1/\SlRow B w 9 s2 b.length r2/\Au B w b r2/\SlRow B w 9 s3 c.length r3/\Au B w c r3
def Au(B:AS)(w:World):List CS->List Value->Prop
 | [],cs=>cs=[]
 | e :: r,cs=>∃c1 c2,cs=c1 ++ c2/\Co B w e c1/\Au B w r c2
end
def Ba(s:List UInt8 × List UInt8):List Value:=[.string ⟨s.1.toArray⟩,.string ⟨s.2.toArray⟩,iv 0]
def Hz(B:AS)(w:World)(l:List (List UInt8 × List UInt8))(v:Value):Prop:=SlRow B w 3 v l.length (l.flatMap Ba)
def Na(B:AS)(w:World)(l:List (List UInt8))(v:Value):Prop:=SlRow B w 1 v l.length (l.map λ t=>.string ⟨t.toArray⟩)
def Fb(B:AS)(w:World)(l:List CS)(v:Value):Prop:=∃row,SlRow B w 9 v l.length row/\Au B w l row
def Ej(B:AS)(w:World)(f:CF)(cs:AR):Prop:=
 ∃ps ls bs,cs=[.string ⟨f.name.toArray⟩,.bool f.on,ps,.string ⟨f.result.toArray⟩,ls,bs,iv 0]/\Hz B w f.params ps/\Na B w f.locals ls/\Fb B w f.body bs
def B6(B:AS)(w:World):List CF->List Value->Prop
 | [],cs=>cs=[]
 | e :: r,cs=>∃c1 c2,cs=c1 ++ c2/\Ej B w e c1/\B6 B w r c2
def Ab9(B:AS)(w:World)(l:List CF)(v:Value):Prop:=∃row,SlRow B w 7 v l.length row/\B6 B w l row
def Gk(B:AS)(w:World)(p:CP)(v:Value):Prop:=∃ss fs,v=.agg #[iv p.version,ss,fs]/\Hz B w p.states ss/\Ab9 B w p.fns fs
mutual
theorem Cl.since{B:AS}{w w':World}(s:Since B w w'):∀{e:CE} {cs:AR},Cl B w e cs->Cl B w' e cs
 | .mk k o n t q y args,cs,h=>by
  rw[Cl] at h ⊢;obtain⟨sl,row,hc,hr,ha⟩:=h;exact⟨sl,row,hc,hr.since s,Aw.since s ha⟩
theorem Aw.since{B:AS}{w w':World}(s:Since B w w'):∀{l:List CE} {cs:AR},Aw B w l cs->Aw B w' l cs
 | [],cs,h=>by rw[Aw] at h ⊢;exact h
 | e :: r,cs,h=>by
  rw[Aw] at h ⊢;obtain⟨c1,c2,hc,h1,h2⟩:=h;exact⟨c1,c2,hc,Cl.since s h1,Aw.since s h2⟩
end
mutual
theorem Co.since{B:AS}{w w':World}(s:Since B w w'):∀{e:CS} {cs:AR},Co B w e cs->Co B w' e cs
 | .mk k q f n es b c,cs,h=>by
  rw[Co] at h ⊢;obtain⟨s1,s2,s3,r1,r2,r3,hc,a1,a2,a3,a4,a5,a6⟩:=h;exact⟨s1,s2,s3,r1,r2,r3,hc,a1.since s,a2.since s,a3.since s,Au.since s a4,a5.since s,Au.since s a6⟩
theorem Au.since{B:AS}{w w':World}(s:Since B w w'):∀{l:List CS} {cs:AR},Au B w l cs->Au B w' l cs
 | [],cs,h=>by rw[Au] at h ⊢;exact h
 | e :: r,cs,h=>by
  rw[Au] at h ⊢;obtain⟨c1,c2,hc,h1,h2⟩:=h;exact⟨c1,c2,hc,Co.since s h1,Au.since s h2⟩
end
theorem SlRow.base'{B:AS}{n:Nat}{row:AR}(h:SlRow B w sz v n row)(hb:∀k,B k->k<w.heap.size->B' k):SlRow B' w sz v n row:=by
 obtain⟨h1,h2⟩:=h;refine⟨h1,?_⟩;rcases h2 with h2 | ⟨g,o,cap,hv,hc,hm,hB,hg,r⟩
 .exact AI h2
 .exact AJ ⟨g,o,cap,hv,hc,hm,hb _ hB hg,hg,r⟩
abbrev BD:=@SlRow.base'
mutual
theorem Cl.base{B B':AS}{w:World}(hb:∀k,B k->k<w.heap.size->B' k):∀{e:CE} {cs:AR},Cl B w e cs->Cl B' w e cs
 | .mk k o n t q y args,cs,h=>by
  rw[Cl] at h ⊢;obtain⟨sl,row,hc,hr,ha⟩:=h;exact⟨sl,row,hc,hr.base' hb,Aw.base hb ha⟩
theorem Aw.base{B B':AS}{w:World}(hb:∀k,B k->k<w.heap.size->B' k):∀{l:List CE} {cs:AR},Aw B w l cs->Aw B' w l cs
 | [],cs,h=>by rw[Aw] at h ⊢;exact h
 | e :: r,cs,h=>by
  rw[Aw] at h ⊢;obtain⟨c1,c2,hc,h1,h2⟩:=h;exact⟨c1,c2,hc,Cl.base hb h1,Aw.base hb h2⟩
end
mutual
theorem Co.base{B B':AS}{w:World}(hb:∀k,B k->k<w.heap.size->B' k):∀{e:CS} {cs:AR},Co B w e cs->Co B' w e cs
 | .mk k q f n es b c,cs,h=>by
  rw[Co] at h ⊢;obtain⟨s1,s2,s3,r1,r2,r3,hc,a1,a2,a3,a4,a5,a6⟩:=h;exact⟨s1,s2,s3,r1,r2,r3,hc,a1.base' hb,a2.base hb,a3.base' hb,Au.base hb a4,a5.base' hb,Au.base hb a6⟩
theorem Au.base{B B':AS}{w:World}(hb:∀k,B k->k<w.heap.size->B' k):∀{l:List CS} {cs:AR},Au B w l cs->Au B' w l cs
 | [],cs,h=>by rw[Au] at h ⊢;exact h
 | e :: r,cs,h=>by
  rw[Au] at h ⊢;obtain⟨c1,c2,hc,h1,h2⟩:=h;exact⟨c1,c2,hc,Co.base hb h1,Au.base hb h2⟩
end
theorem Cl.cells{B:AS}{e:CE}(h:Cl B w e cs):∃(k o n s:Nat) (t y:AQ) (args:List CE) (sl:Value) (row:AR),e=.mk k o n t s y args/\cs=[iv k,iv o,iv n,.string ⟨t.toArray⟩,iv s,.string ⟨y.toArray⟩,sl,iv 0]/\SlRow B w 8 sl args.length row/\Aw B w args row:=by
 obtain⟨k,o,n,t,s,y,args⟩:=e;rw[Cl] at h;obtain⟨sl,row,h1,h2,h3⟩:=h;exact⟨k,o,n,s,t,y,args,sl,row,rfl,h1,h2,h3⟩
theorem Cl.len{B:AS}{e:CE}(h:Cl B w e cs):cs.length=8:=by
 obtain⟨k,o,n,s,t,y,args,sl,row,_,rfl,_⟩:=h.cells;rfl
theorem Aw.snoc{B:AS}{w:World}:∀{l:List CE} {row:AR} {e:CE} {cs:AR},Aw B w l row->Cl B w e cs->Aw B w (l ++ [e]) (row ++ cs)
 | [],row,e,cs,h1,h2=>by
  rw[Aw] at h1;subst h1;rw[nil_append,nil_append,Aw];exact⟨cs,[],by simp,h2,by rw[Aw]⟩
 | x :: r,row,e,cs,h1,h2=>by
  rw[Aw] at h1;obtain⟨c1,c2,rfl,h3,h4⟩:=h1;rw[cons_append,Aw];exact⟨c1,c2 ++ cs,by simp,h3,Aw.snoc h4 h2⟩
theorem Au.snoc{B:AS}{w:World}:∀{l:List CS} {row:AR} {e:CS} {cs:AR},Au B w l row->Co B w e cs->Au B w (l ++ [e]) (row ++ cs)
 | [],row,e,cs,h1,h2=>by
  rw[Au] at h1;subst h1;rw[nil_append,nil_append,Au];exact⟨cs,[],by simp,h2,by rw[Au]⟩
 | x :: r,row,e,cs,h1,h2=>by
  rw[Au] at h1;obtain⟨c1,c2,rfl,h3,h4⟩:=h1;rw[cons_append,Au];exact⟨c1,c2 ++ cs,by simp,h3,Au.snoc h4 h2⟩
abbrev G3(m:Mng):Value:=.agg #[iv m.kind,iv m.slot,.string ⟨m.type.toArray⟩]
def A7(w:World)(b:Nat)(env:Ck.Env):Prop:=∃(es:Array MapEntry) (clock:Nat),w.heap[b]?=some (.map es clock)/\es.toList.map (λ e=>(e.key,e.val))=env.map λ x=>(.string ⟨x.1.toArray⟩,G3 x.2)
end
end Go.Proofs.YtpckmjfabiallaaGreatDoor
