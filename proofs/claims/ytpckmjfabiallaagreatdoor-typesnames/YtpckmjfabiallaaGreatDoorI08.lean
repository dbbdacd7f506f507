/- Texts of ours, joined. -/
import Derived.Test.YtpckmjfabiallaaGreatDoorI04
import Derived.Test.YtpckmjfabiallaaGreatDoorI05
set_option linter.unusedVariables false
set_option linter.unusedSimpArgs false
set_option maxRecDepth 100000
set_option maxHeartbeats 16000000
namespace Go.Proofs.YtpckmjfabiallaaGreatDoor
variable{i m p:Nat}{v:Value}{w:World}
open List
open Tryz
section
namespace Px
open Lx (Tok B rho NT)
mutual
def Ex.rn:Ex->Ex
 | .mk k o n t a _=>.mk k o n (rho t) (rnsE a) 0
def rnsE:List Ex->List Ex
 | []=>[]
 | e :: r=>e.rn :: rnsE r
end
mutual
def St.rn:St->St
 | .mk k n es b c _=>.mk k (rho n) (rnsE es) (rnsS b) (rnsS c) 0
def rnsS:List St->List St
 | []=>[]
 | s :: r=>s.rn :: rnsS r
end
def Sl.rn(s:Sl):Sl:=⟨rho s.name,s.type,0⟩
def Fn.rn(f:Fn):Fn:=⟨rho f.name,f.on,f.params.map Sl.rn,f.result,rnsS f.body,0⟩
def Pr.rn(p:Pr):Pr:=⟨p.version,p.states.map Sl.rn,p.fns.map Fn.rn⟩
theorem rnsE_map:∀l,rnsE l=l.map Ex.rn
 | []=>by simp[rnsE]
 | e :: r=>by simp[rnsE,rnsE_map r]
theorem Lz:∀l,rnsS l=l.map St.rn
 | []=>by simp[rnsS]
 | e :: r=>by simp[rnsS,Lz r]
abbrev NF:List Tok->List Tok->Prop:=NT false
def NA(l m:List Tok):Prop:=∃b,NT b l m
theorem NA.of{b:Bool}{l m:List Tok}(h:NT b l m):NA l m:=⟨b,h⟩
theorem NT.len{b:Bool}{l m:List Tok}(h:NT b l m):l.length=m.length:=by
 induction h with
 | nil=>rfl
 | cons _ _ _ _ _ _ _ ih=>simp[ih]
theorem NA.len{l m:List Tok}(h:NA l m):l.length=m.length:=by obtain⟨b,h⟩:=h;exact NT.len h
def Stb(x:B):Prop:=x.head?≠some 119/\rho x=x
instance (x:B):Decidable (Stb x):=by unfold Stb;infer_instance
theorem Gg{t x:B}(h:Stb x):rho t=x↔t=x:=by
 constructor
 .intro e
  match t with
  | []=>simpa [rho] using e
  | c :: r=>
   rw[rho] at e;split at e
   .rw[<-e] at h;exact absurd rfl h.1
   .exact e
 .rintro rfl;exact h.2
theorem NT.text{b:Bool}{t u:Tok}{l m:List Tok}(h:NT b (t :: l) (u :: m)){x:B}(hx:Stb x):u.text=x↔t.text=x:=by
 cases h with
 | cons k n h1 h2 h3 h4 h5=>
  by_cases hk:t.kind=1
  .rcases h1 hk with e | ⟨_,e⟩
   .rw[e];exact Gg hx
   .rw[e]
  .rw[h2 hk]
theorem NA.sees{l m:List Tok}(h:NA l m)(k:Nat)(x:B)(hx:Stb x:=by decide):Px.sees k x m=Px.sees k x l:=by
 obtain⟨b,h⟩:=h;cases h with
 | nil=>rfl
 | cons a n h1 h2 h3 h4 h5=>
  have:=NT.text (.cons (b:=b) a n h1 h2 h3 h4 h5) hx;simp only[Px.sees,<-a];congr 1;rw[Bool.eq_iff_iff,beq_iff_eq,beq_iff_eq];exact this
theorem NA.tail{l m:List Tok}(h:NA l m){k:Nat}{x:B}(hs:Px.sees k x l=true)(hk:k≠2):NF l.tail m.tail:=by
 obtain⟨b,h⟩:=h;cases h with
 | nil=>exact .nil
 | cons a n h1 h2 h3 h4 h5=>
  simp only[Px.sees,Bool.and_eq_true,beq_iff_eq] at hs;rw[hs.1] at h5;have:(k == 2)=false:=by simpa using hk
  rw[this] at h5;exact h5
def RnR{α:Type}(T:List Tok->List Tok->Prop)(ρ:α->α->Prop)(r s:R α):Prop:=
 match r,s with
 | .inl (x,l),.inl (y,m)=>ρ x y/\T l m
 | .inr (_,e),.inr (_,f)=>e=f
 | _,_=>False
theorem RnR.bind{α β:Type}{T T':List Tok->List Tok->Prop}{ρ:α->α->Prop}{σ:β->β->Prop}{r s:R α}{f g:α->List Tok->R β}(h:RnR T ρ r s)(hf:∀x y l m,ρ x y->T l m->RnR T' σ (f x l) (g y m)):RnR T' σ (bind r f) (bind s g):=by
 match r,s,h with
 | .inl (x,l),.inl (y,m),h=>exact hf x y l m h.1 h.2
 | .inr (_,e),.inr (_,f),h=>exact h
theorem RnR.fail{α:Type}{T:List Tok->List Tok->Prop}{ρ:α->α->Prop}{e:Nat}{l m:List Tok}:RnR T ρ (fail e l) (fail e m):=rfl
theorem RnR.pure{α:Type}{T:List Tok->List Tok->Prop}{ρ:α->α->Prop}{x y:α}{l m:List Tok}(h:ρ x y)(t:T l m):RnR T ρ (.inl (x,l)) (.inl (y,m)):=⟨h,t⟩
def RnP{α:Type}(S T:List Tok->List Tok->Prop)(ρ:α->α->Prop)(q:P α):Prop:=∀l m,S l m->RnR T ρ (q l) (q m)
abbrev ExN:Ex->Ex->Prop:=λ x y=>x.rn=y.er
abbrev Ba6:List Ex->List Ex->Prop:=λ x y=>x.map Ex.rn=y.map Ex.er
abbrev StN:St->St->Prop:=λ x y=>x.rn=y.er
abbrev Ag4:List St->List St->Prop:=λ x y=>x.map St.rn=y.map St.er
abbrev SlN:Sl->Sl->Prop:=λ x y=>x.rn=y.er
theorem Sh(k:Nat)(x:B)(hk:k≠2:=by decide)(hx:Stb x:=by decide):RnP NA NF EqR (needK k x):=by
 intro l m h;unfold needK;rw[h.sees k x hx];split
 .exact .pure rfl (h.tail (by assumption) hk)
 .exact .fail
theorem Wy{k:Nat}{x:B}{l m:List Tok}(h:NA l m)(hk:k≠2:=by decide)(hx:Stb x:=by decide):RnR NF EqR (needK k x l) (needK k x m):=Sh k x hk hx l m h
theorem B9{x:B}{l m:List Tok}(h:NA l m)(hx:Stb x:=by decide):RnR NF EqR (need x l) (need x m):=Sh 4 x (by decide) hx l m h
theorem words_rn(t:B):reserved (rho t)=reserved t:=by
 have h:∀x∈words,Stb x:=by decide
 unfold reserved;rw[Bool.eq_iff_iff,contains_iff_mem,contains_iff_mem];constructor
 .intro hm;have:=(Gg (t:=t) (h _ hm)).1 rfl;rw[this];exact hm
 .intro hm;have:=(Gg (t:=t) (h _ hm)).2 rfl;rw[this];exact hm
theorem Fu:RnP NF NF (λ t u=>u.text=rho t.text) name:=by
 intro l m h;cases h with
 | nil=>exact .fail
 | cons a n h1 h2 h3 h4 h5=>
  rename_i t u l m;have e:t.kind=1->u.text=rho t.text:=λ hk=>by
   rcases h1 hk with e | ⟨e,_⟩
   .exact e
   .cases e
  simp only[name,<-a];by_cases hk:t.kind=1
  .rw[e hk,words_rn];split
   .rw[hk] at h5;exact .pure (e hk) h5
   .exact .fail
  .rw[if_neg (λ h=>hk h.1),if_neg (λ h=>hk h.1)];exact .fail
theorem Ys:RnP NF NA EqR number:=by
 intro l m h;cases h with
 | nil=>exact .fail
 | cons a n h1 h2 h3 h4 h5=>
  simp only[number,<-a,<-n];split
  .exact .pure rfl (.of h5)
  .exact .fail
theorem Aw3:RnP NF NF EqR key:=by
 intro l m h;have h:=NA.of h;unfold key;rw[h.sees 1 _,h.sees 1 _];split
 .exact .pure rfl (h.tail (by assumption) (by decide))
 split
 .exact .pure rfl (h.tail (by assumption) (by decide))
 .exact .fail
theorem P3:∀k,RnP NF NF EqR (typ k)
 | 0=>λ _ _ _=>.fail
 | k+1=>by
  intro l m h;have h:=NA.of h;simp only[typ,h.sees 1 [105,110,116],h.sees 1 [98,111,111,108],h.sees 1 [116,101,120,116],h.sees 4 [91],h.sees 4 [123]];split
  .exact .pure rfl (h.tail (by assumption) (by decide))
  split
  .exact .pure rfl (h.tail (by assumption) (by decide))
  split
  .exact .pure rfl (h.tail (by assumption) (by decide))
  split
  .exact (P3 k _ _ (h.tail (by assumption) (by decide))).bind λ x y _ _ e h1=>(B9 (.of h1)).bind λ _ _ _ _ _ h2=>.pure (by rw[e]) h2
  split
  .exact (Aw3 _ _ (h.tail (by assumption) (by decide))).bind λ x y _ _ e h1=>(B9 (.of h1)).bind λ _ _ _ _ _ h2=>(P3 k _ _ h2).bind λ _ _ _ _ e3 h3=>(B9 (.of h3)).bind λ _ _ _ _ _ h4=>.pure (by rw[e,e3]) h4
  .exact .fail
theorem Wz:RnP NF NF SlN slot:=λ l m h=>(Fu _ _ h).bind λ x y _ _ e h1=>(B9 (.of h1)).bind λ _ _ _ _ _ h2=>(P3 4 _ _ h2).bind λ _ _ _ _ e3 h3=>.pure (by simp only[SlN,Sl.rn,Sl.er,e,e3]) h3
theorem Aw4(n:Nat){l m:List Tok}(h0:n=0->NF l m)(h:NA l m):RnR NF EqR (sep n l) (sep n m):=by
 unfold sep;split
 .exact .pure rfl (h0 (by assumption))
 .exact B9 h
theorem L0{α β:Type}{g g':α->β}{T:List Tok->List Tok->Prop}(hT:∀l m,T l m->NA l m){q:P α}(hq:RnP NF T (λ x y=>g x=g' y) q):∀(f n:Nat) (a b:List α),a.map g=b.map g'->∀l m,(n=0->NF l m)->NA l m->RnR NF (λ x y=>x.map g=y.map g') (items q f n a l) (items q f n b m)
 | 0,_,_,_,_,_,_,_,_=>rfl
 | f+1,n,a,b,hab,l,m,h0,h=>by
  simp only[items,h.sees 4 [41]];split
  .exact .pure hab (h.tail (by assumption) (by decide))
  .exact (Aw4 n h0 h).bind λ _ _ _ _ _ h1=>(hq _ _ h1).bind λ x y _ _ e h2=>L0 hT hq f (n+1) _ _ (by simp[hab,e]) _ _ (λ h=>by cases h) (hT _ _ h2)
theorem Ut{b:Bool}{t u:Tok}{l m:List Tok}(h:NT b (t :: l) (u :: m)):levelOf u=levelOf t/\((levelOf t).1≠0->NF l m):=by
 cases h with
 | cons a n h1 h2 h3 h4 h5=>
  unfold levelOf;rw[<-a];by_cases hk:t.kind=4
  .rw[h2 (by omega)];refine⟨rfl,λ _=>?_⟩;rw[hk] at h5;exact h5
  .rw[if_neg hk,if_neg hk];exact⟨rfl,λ h=>absurd rfl h⟩
theorem Ag5{k o n:Nat}{a b c d:Ex}{q:Nat}(h1:a.rn=b.er)(h2:c.rn=d.er):(Ex.mk k o n [] [a,c] p).rn=(Ex.mk k o n [] [b,d] q).er:=by
 simp[Ex.rn,Ex.er,rnsE,ersE,h1,h2,rho]
theorem Ag6{k o n:Nat}{a b:Ex}{q:Nat}(h1:a.rn=b.er):(Ex.mk k o n [] [a] p).rn=(Ex.mk k o n [] [b] q).er:=by
 simp[Ex.rn,Ex.er,rnsE,ersE,h1,rho]
theorem W1{k o n:Nat}{t t':B}{a b:List Ex}{q:Nat}(h0:t'=rho t)(h1:a.map Ex.rn=b.map Ex.er):(Ex.mk k o n t a p).rn=(Ex.mk k o n t' b q).er:=by
 simp[Ex.rn,Ex.er,rnsE_map,ersE_map,h1,h0]
theorem Si{n:Nat}(hn:n≠0){q:P Ex}(hq:RnP NF NA ExN q):∀(f c:Nat) (a b:Ex),a.rn=b.er->∀l m,NA l m->RnR NA ExN (chain n q f c a l) (chain n q f c b m)
 | 0,_,_,_,_,_,_,_=>rfl
 | f+1,c,a,b,hab,_,_,⟨_,.nil⟩=>rfl
 | f+1,c,a,b,hab,_,_,⟨z,.cons (t:=t) (u:=u) (l:=l) (m:=m) k0 n0 h1 h2 h3 h4 h5⟩=>by
  obtain⟨e1,e2⟩:=Ut (.cons (b:=z) k0 n0 h1 h2 h3 h4 h5);simp only[chain,e1];split
  .rename_i hl;split
   .exact .fail
   .exact (hq _ _ (e2 (by omega))).bind λ x y _ _ e h1=>Si hn hq f (c+1) _ _ (Ag5 hab e) _ _ h1
  .exact .pure hab (.of (.cons (b:=z) k0 n0 h1 h2 h3 h4 h5))
theorem Gh{n:Nat}(hn:n≠0){q:P Ex}(hq:RnP NF NA ExN q):RnP NF NA ExN (level n q):=λ l m h=>(hq _ _ h).bind λ x y _ _ e h1=>by rw[h1.len];exact Si hn hq _ _ _ _ e _ _ h1
theorem Uu{q:P Ex}(hq:RnP NF NA ExN q):RnP NF NA ExN (lvl q):=Gh (by decide) (Gh (by decide) (Gh (by decide) (Gh (by decide) (Gh (by decide) hq))))
theorem Ag7{e:P Ex}(he:RnP NF NA ExN e):∀(f:Nat) (a b:Ex),a.rn=b.er->∀l m,NA l m->RnR NA ExN (ats e f a l) (ats e f b m)
 | 0,_,_,_,_,_,_=>rfl
 | f+1,a,b,hab,l,m,h=>by
  simp only[ats,h.sees 4 [91]];split
  .exact (he _ _ (h.tail (by assumption) (by decide))).bind λ x y _ _ e1 h1=>(B9 h1).bind λ _ _ _ _ _ h2=>Ag7 he f _ _ (Ag5 hab e1) _ _ (.of h2)
  .exact .pure hab h
theorem Uv{e:P Ex}(he:RnP NF NA ExN e):RnP NF NA ExN (primary e):=by
 intro l m h;have hA:=NA.of h;have a5:=hA.sees 1 [116,114,117,101];have a7:=hA.sees 1 [102,97,108,115,101];have a6:=hA.sees 4 [40];have ht:=λ (k:Nat) (x:B)=>hA.tail (k:=k) (x:=x)
 have a0:=Fu _ _ h;cases h with
 | nil=>exact .fail
 | cons a n h1 h2 h3 h4 h5=>
  rename_i t u l m;simp only[primary,a5,a7,a6,<-a,<-n];split
  .exact .pure (by simp[ExN,Ex.rn,Ex.er,rho,rnsE,ersE]) (.of h5)
  split
  .exact .pure (by simp[ExN,Ex.rn,Ex.er,rho,rnsE,ersE]) (.of h5)
  split
  .exact .pure (by simp[ExN,Ex.rn,Ex.er,rho,rnsE,ersE]) (.of h5)
  split
  .exact (he _ _ (ht 4 [40] (by assumption) (by decide))).bind λ x y _ _ e1 h1=>(B9 h1).bind λ _ _ _ _ _ h2=>.pure e1 (.of h2)
  .refine a0.bind λ t1 u1 l1 m1 e1 h1=>?_
   have a3:=NA.of h1;rw[a3.sees 4 [40]];split
   .rw[a3.len];have a4:=a3.tail (by assumption) (by decide);exact (L0 (g:=Ex.rn) (g':=Ex.er) (λ _ _ h=>h) he _ _ _ _ rfl _ _ (λ _=>a4) (.of a4)).bind λ xs ys _ _ e2 h2=>.pure (W1 e1 e2) (.of h2)
   .exact .pure (W1 e1 rfl) a3
theorem Gi:∀k,RnP NF NA ExN (unary k)
 | 0=>λ _ _ _=>.fail
 | k+1=>by
  intro l m h;have hA:=NA.of h;simp only[unary,hA.sees 4 [45],hA.sees 4 [33]];split
  .exact (Gi k _ _ (hA.tail (by assumption) (by decide))).bind λ x y _ _ e h1=>.pure (Ag6 e) h1
  split
  .exact (Gi k _ _ (hA.tail (by assumption) (by decide))).bind λ x y _ _ e h1=>.pure (Ag6 e) h1
  .exact (Uv (Uu (Gi k)) _ _ h).bind λ x y _ _ e h1=>by rw[h1.len];exact Ag7 (Uu (Gi k)) _ _ _ e _ _ h1
theorem Ap0(k:Nat):RnP NF NA ExN (Mq k):=Uu (Gi k)
theorem Aw5{e:P Ex}(he:RnP NF NA ExN e):RnP NF NF Ba6 (opt e):=by
 intro l m h;have hA:=NA.of h;unfold opt;rw[hA.sees 4 [91]];split
 .exact (he _ _ (hA.tail (by assumption) (by decide))).bind λ x y _ _ e1 h1=>(B9 h1).bind λ _ _ _ _ _ h2=>.pure (by simp[Ba6,e1]) h2
 .exact .pure rfl h
theorem Ag8{b:P (List St)}(hb:RnP NA NF Ag4 b):RnP NF NF Ag4 (other b):=by
 intro l m h;have hA:=NA.of h;unfold other;rw[hA.sees 1 [101,108,115,101]];split
 .exact hb _ _ (.of (hA.tail (by assumption) (by decide)))
 .exact .pure rfl h
theorem Oe{k:Nat}{n n':B}{es a0:List Ex}{b b' c c':List St}{p':Nat}(h0:n'=rho n)(h1:es.map Ex.rn=a0.map Ex.er)(h2:b.map St.rn=b'.map St.er)(h3:c.map St.rn=c'.map St.er):(St.mk k n es b c p).rn=(St.mk k n' a0 b' c' p').er:=by
 simp[St.rn,St.er,rnsE_map,Lz,ersE_map,K5,h0,h1,h2,h3]
theorem Ap1{e:P Ex}{b:P (List St)}(he:RnP NF NA ExN e)(hb:RnP NA NF Ag4 b):RnP NF NF StN (stmt e b):=by
 intro l m h;have hA:=NA.of h;simp only[stmt,hA.sees 1 [108,101,116],hA.sees 1 [115,101,116],hA.sees 1 [100,101,108],hA.sees 1 [105,102],hA.sees 1 [102,111,114],hA.sees 1 [114,101,116]];have ht:=λ (k:Nat) (x:B)=>hA.tail (k:=k) (x:=x)
 split
 .exact (Fu _ _ (ht 1 _ (by assumption) (by decide))).bind λ _ _ _ _ e0 h0=>(B9 (.of h0)).bind λ _ _ _ _ _ h1=>(he _ _ h1).bind λ _ _ _ _ e2 h2=>(B9 h2).bind λ _ _ _ _ _ h3=>.pure (Oe e0 (by simp[e2]) rfl rfl) h3
 split
 .exact (Fu _ _ (ht 1 _ (by assumption) (by decide))).bind λ _ _ _ _ e0 h0=>(Aw5 he _ _ h0).bind λ _ _ _ _ e1 h1=>(B9 (.of h1)).bind λ _ _ _ _ _ h2=>(he _ _ h2).bind λ _ _ _ _ e3 h3=>(B9 h3).bind λ _ _ _ _ _ h4=>.pure (Oe e0 (by simp[e1,e3]) rfl rfl) h4
 split
 .exact (Fu _ _ (ht 1 _ (by assumption) (by decide))).bind λ _ _ _ _ e0 h0=>(B9 (.of h0)).bind λ _ _ _ _ _ h1=>(he _ _ h1).bind λ _ _ _ _ e2 h2=>(B9 h2).bind λ _ _ _ _ _ h3=>(B9 (.of h3)).bind λ _ _ _ _ _ h4=>.pure (Oe e0 (by simp[e2]) rfl rfl) h4
 split
 .exact (he _ _ (ht 1 _ (by assumption) (by decide))).bind λ _ _ _ _ e0 h0=>(hb _ _ h0).bind λ _ _ _ _ e1 h1=>(Ag8 hb _ _ h1).bind λ _ _ _ _ e2 h2=>.pure (Oe rfl (by simp[e0]) e1 e2) h2
 split
 .exact (Fu _ _ (ht 1 _ (by assumption) (by decide))).bind λ _ _ _ _ e0 h0=>(Wy (.of h0)).bind λ _ _ _ _ _ h1=>(he _ _ h1).bind λ _ _ _ _ e2 h2=>(hb _ _ h2).bind λ _ _ _ _ e3 h3=>.pure (Oe e0 (by simp[e2]) e3 rfl) h3
 split
 .exact (he _ _ (ht 1 _ (by assumption) (by decide))).bind λ _ _ _ _ e0 h0=>(B9 h0).bind λ _ _ _ _ _ h1=>.pure (Oe rfl (by simp[e0]) rfl rfl) h1
 .exact .fail
theorem Sj{q:P St}(hq:RnP NF NF StN q):∀(f:Nat) (a b:List St),a.map St.rn=b.map St.er->∀l m,NF l m->RnR NF Ag4 (stmts q f a l) (stmts q f b m)
 | 0,_,_,_,_,_,_=>rfl
 | f+1,a,b,hab,l,m,h=>by
  have hA:=NA.of h;simp only[stmts,hA.sees 4 [125]];split
  .exact .pure hab (hA.tail (by assumption) (by decide))
  .exact (hq _ _ h).bind λ x y _ _ e h1=>Sj hq f _ _ (by simp[hab,e]) _ _ h1
theorem Sk:∀k,RnP NA NF Ag4 (block k)
 | 0=>λ _ _ _=>.fail
 | k+1=>λ l m h=>(B9 h).bind λ _ _ _ _ _ h1=>by rw[NT.len h1];exact Sj (Ap1 (Ap0 k) (Sk k)) _ _ _ rfl _ _ h1
theorem J4(on:Bool):RnP NF NF (λ x y=>x.rn=y.er) (function on):=λ l m h=>
 (Fu _ _ h).bind λ _ _ _ _ e0 h0=>(B9 (.of h0)).bind λ _ _ _ _ _ h1=>by
  rw[NT.len h1];exact (L0 (g:=Sl.rn) (g':=Sl.er) (λ _ _ h=>.of h) Wz _ _ _ _ rfl _ _ (λ _=>h1) (.of h1)).bind λ _ _ _ _ e2 h2=>(B9 (.of h2)).bind λ _ _ _ _ _ h3=>(P3 4 _ _ h3).bind λ _ _ _ _ e4 h4=>(Sk 24 _ _ (.of h4)).bind λ _ _ _ _ e5 h5=>.pure (by simp[Fn.rn,Fn.er,e0,e2,e4,Lz,K5,e5]) h5
theorem Ir:∀(f:Nat) (p q:Pr),p.rn=q.er->∀l m,NF l m->RnR NF (λ x y=>x.rn=y.er) (parts f p l) (parts f q m)
 | 0,_,_,_,_,_,_=>rfl
 | f+1,p,q,hpq,_,_,.nil=>rfl
 | f+1,p,q,hpq,_,_,.cons (t:=t) (u:=u) (l:=l) (m:=m) k0 n0 h1 h2 h3 h4 h5=>by
  have h:=NT.cons (b:=false) k0 n0 h1 h2 h3 h4 h5;have hA:=NA.of h;have hp:p.version=q.version/\p.states.map Sl.rn=q.states.map Sl.er/\p.fns.map Fn.rn=q.fns.map Fn.er:=by simpa [Pr.rn,Pr.er] using hpq
  have ht:=λ (k:Nat) (x:B)=>hA.tail (k:=k) (x:=x)
  simp only[parts,hA.sees 1 [115,116,97,116,101],hA.sees 1 [102,110],hA.sees 1 [111,110],<-k0];split
  .exact .pure hpq h
  split
  .exact (Wz _ _ (ht 1 _ (by assumption) (by decide))).bind λ _ _ _ _ e0 h0=>(B9 (.of h0)).bind λ _ _ _ _ _ h1=>Ir f _ _ (by simp[Pr.rn,Pr.er,hp.1,hp.2.1,hp.2.2,e0]) _ _ h1
  split
  .exact (J4 _ _ _ (ht 1 _ (by assumption) (by decide))).bind λ _ _ _ _ e0 h0=>Ir f _ _ (by simp[Pr.rn,Pr.er,hp.1,hp.2.1,hp.2.2,e0]) _ _ h0
  split
  .exact (J4 _ _ _ (ht 1 _ (by assumption) (by decide))).bind λ _ _ _ _ e0 h0=>Ir f _ _ (by simp[Pr.rn,Pr.er,hp.1,hp.2.1,hp.2.2,e0]) _ _ h0
  .exact .fail
theorem Uw:RnP NF NF (λ x y=>x.rn=y.er) program:=λ l m h=>
 (Wy (.of h)).bind λ _ _ _ _ _ h0=>(Ys _ _ h0).bind λ _ _ _ _ e1 h1=>(B9 h1).bind λ _ _ _ _ _ h2=>by rw[NT.len h2];exact Ir _ _ _ (by simp[Pr.rn,Pr.er,e1]) _ _ h2
theorem parse_rn{l:B}{p:Pr}(hq:Lx.NoQ l)(h:parse l=.inl p):(∃q,parse (Lx.rn false l)=.inl q/\p.rn=q.er)\/∃a,parse (Lx.rn false l)=.inr (a,3):=by
 unfold parse at h ⊢;rcases hl:Lx.lex true l with ts | e
 .rw[hl] at h;rcases Lx.lexes_rn hq hl with⟨us,h1,h2⟩ | ⟨a,h1⟩
  .rw[h1];have hr:=Uw ts us h2;simp only at h ⊢;rcases hp:program ts with⟨p',r⟩ | e
   .rw[hp] at h hr;cases h;rcases hp2:program us with⟨q,r2⟩ | e2
    .rw[hp2] at hr;exact AI ⟨q,rfl,hr.1⟩
    .rw[hp2] at hr;exact hr.elim
   .rw[hp] at h;cases h
  .rw[h1];exact AJ ⟨a,rfl⟩
 .rw[hl] at h;cases h
end Px
namespace Ck
open Lx (B rho)
open Px (Ex St Sl Pr WfE WfEs WfS Cg WfP WfSl WfF G9 FormS Stb Gg)
def NW(t:B):Prop:=∀c∈t,c≠119
structure VN(V:Nat->B->Nat->Prop):Prop where
 one:∀t n,V 1 t n->NW t
 three:∀t n,¬V 3 t n
theorem rho_inj{s t:B}(hs:NW s)(ht:NW t):rho s=rho t↔s=t:=by
 refine⟨λ h=>?_,λ h=>by rw[h]⟩
 match s,t with
 | [],[]=>rfl
 | [],d :: r=>rw[rho,rho] at h;split at h <;> cases h
 | c :: r,[]=>rw[rho,rho] at h;split at h <;> cases h
 | c :: r,d :: r'=>
  rw[rho,rho] at h;have hc:=hs c (AC ..);have hd:=ht d (AC ..);split at h <;> split at h
  .simpa using h
  .simp only[List.cons.injEq] at h;exact absurd h.1.symm hd
  .simp only[List.cons.injEq] at h;exact absurd h.1 hc
  .exact h
def Cw(env:Env):Env:=env.map λ x=>(rho x.1,x.2)
def E1(env:Env):Prop:=∀x∈env,NW x.1
theorem Kl:∀{env:Env} {t:B},E1 env->NW t->look (Cw env) (rho t)=look env t
 | [],t,_,_=>rfl
 |(n,m) :: r,t,h,ht=>by
  have ih:=Kl (env:=r) (λ x hx=>h x (AH _ hx)) ht;have hn:=rho_inj (h (n,m) (AC ..)) ht;show (if rho n=rho t then m else look (Cw r) (rho t))=if n=t then m else look r t
  rw[ih];by_cases e:n=t
  .rw[if_pos e,if_pos (hn.2 e)]
  .rw[if_neg e,if_neg (λ h=>e (hn.1 h))]
theorem L1(t:B):bkind (rho t)=bkind t:=by
 have h1:Stb [108,101,110]:=by decide
 have h2:Stb [104,97,115]:=by decide
 have h3:Stb [112,117,115,104]:=by decide
 have h4:Stb [115,116,114]:=by decide
 unfold bkind;simp only[Gg h1,Gg h2,Gg h3,Gg h4]
def Sn(c:Cx):Cx:=⟨Cw c.env,c.number,c.heads⟩
theorem W2{c:Cx}(he:E1 c.env){k o n:Nat}{t:B}(h3:k≠3)(hn:k=6\/k=7->NW t)(p q:Nat){l m:List Q}(h:Ev l m):Sim (Ck.comb c k o n t p l) (Ck.comb (Sn c) k o n (rho t) q m):=by
 by_cases hk:k=6\/k=7
 .have hl:look (Sn c).env (rho t)=look c.env t:=Kl he (hn hk);have a0:(Sn c).number=c.number:=rfl;have hh:(Sn c).heads=c.heads:=rfl;unfold Ck.comb;rw[L1];rcases hk with rfl | rfl
  .simp only[Nat.reduceEqDiff,if_false,if_true,Ck.name,hl];exact (An _ _ _ _).bind λ _=>rfl
  .simp only[Nat.reduceEqDiff,if_false,if_true];split
   .unfold Ck.call;rw[hl,a0,hh];refine (An _ _ _ _).bind λ _=>(An _ _ _ _).bind λ _=>?_
    rw[h.len];exact (An _ _ _ _).bind λ _=>(h.all _).bind λ xs=>rfl
   .unfold Ck.builtin;simp only[h.len,L1];refine (An _ _ _ _).bind λ _=>(h.arg 0).bind λ x=>(An _ _ _ _).bind λ _=>?_
    split
    .exact (Dr.asked (h.arg 1) _).bind λ y=>rfl
    .rfl
 .have h6:k≠6:=λ e=>hk (AI e)
  have h7:k≠7:=λ e=>hk (AJ e)
  unfold Ck.comb;simp only[h3,h6,h7,if_false]
  repeat' split
  .rfl
  .rfl
  .exact (h.arg 0).bind λ x=>(An _ _ _ _).bind λ _=>(Dr.asked (h.arg 1) _).bind λ y=>rfl
  .exact (Dr.asked (h.arg 0) _).bind λ x=>rfl
  .exact (Dr.asked (h.arg 0) _).bind λ x=>rfl
  .exact (h.arg 0).bind λ x=>(h.arg 1).bind λ y=>(An _ _ _ _).bind λ _=>rfl
theorem It{V:Nat->B->Nat->Prop}(hV:VN V){k o n:Nat}{t:B}{len:Nat}(h:G9 V k o n t len):k≠3/\(k=6\/k=7->NW t):=by
 rcases h with⟨rfl,_⟩ | ⟨rfl,_⟩ | ⟨rfl,_,_,_,h⟩ | ⟨rfl,_,_,_,_,h⟩ | ⟨rfl,_,_,_,h⟩ | ⟨rfl,_⟩ | ⟨rfl | rfl,_⟩ | ⟨rfl,_⟩
 .exact⟨by decide,by simp⟩
 .exact⟨by decide,by simp⟩
 .exact absurd h (hV.three _ _)
 .exact⟨by decide,λ _=>hV.one _ _ h⟩
 .exact⟨by decide,λ _=>hV.one _ _ h⟩
 .exact⟨by decide,by simp⟩
 .exact⟨by decide,by simp⟩
 .exact⟨by decide,by simp⟩
 .exact⟨by decide,by simp⟩
mutual
theorem Bd1{V:Nat->B->Nat->Prop}(hV:VN V){c:Cx}(he:E1 c.env):∀x:Ex,WfE V x->Sim (cE c x) (cE (Sn c) x.rn)
 | .mk k o n t args p,h=>by
  rw[WfE] at h;rw[Px.Ex.rn,cE,cE];obtain⟨h3,hn⟩:=It hV h.1;exact W2 he h3 hn p 0 (P4 hV he args h.2)
theorem P4{V:Nat->B->Nat->Prop}(hV:VN V){c:Cx}(he:E1 c.env):∀l:List Ex,WfEs V l->Ev (cEs c l) (cEs (Sn c) (Px.rnsE l))
 | [],_=>by rw[Px.rnsE,cEs,cEs];trivial
 | .mk k o n t args p :: r,h=>by
  rw[WfEs,WfE] at h;rw[Px.rnsE,Px.Ex.rn,cEs,cEs];obtain⟨h3,hn⟩:=It hV h.1.1;refine⟨?_,P4 hV he r h.2⟩;show Sim (cE c _) (cE (Sn c) _);rw[cE,cE];exact W2 he h3 hn p 0 (P4 hV he args h.1.2)
end
def RS{α β:Type}(I:α->Prop)(f:α->β):R α->R β->Prop
 | .inl x,.inl y=>y=f x/\I x
 | .inr a,.inr b=>a.2=b.2
 | _,_=>False
theorem RS.bind{α β α' β':Type}{I:α->Prop}{f:α->β}{J:α'->Prop}{g:α'->β'}{a:R α}{b:R β}{F:α->R α'}{G:β->R β'}(h:RS I f a b)(k:∀x,I x->RS J g (F x) (G (f x))):RS J g (Ck.bind a F) (Ck.bind b G):=by
 cases a <;> cases b
 .obtain⟨rfl,h2⟩:=h;exact k _ h2
 .exact h.elim
 .exact h.elim
 .exact h
theorem Sim.rs{α α' β':Type}{J:α'->Prop}{g:α'->β'}{a b:R α}{F:α->R α'}{G:α->R β'}(h:Sim a b)(k:∀x,RS J g (F x) (G x)):RS J g (Ck.bind a F) (Ck.bind b G):=by
 cases a <;> cases b
 .have e:_=_:=h;subst e;exact k _
 .exact h.elim
 .exact h.elim
 .exact h
theorem RS.ok{α β:Type}{I:α->Prop}{f:α->β}{x:α}{y:β}(e:y=f x)(h:I x):RS I f (.inl x) (.inl y):=⟨e,h⟩
theorem P5{env:Env}{n:B}(he:E1 env)(hn:NW n)(p q:Nat)(m:Mng):RS E1 Cw (Ck.note env n p m) (Ck.note (Cw env) (rho n) q m):=by
 unfold Ck.note;rw[L1,Kl he hn];refine (An _ _ _ _).rs λ _=>.ok (by simp[Cw]) λ x hx=>?_
 rcases mem_append.1 hx with hx | hx
 .exact he x hx
 .simp at hx;subst hx;exact hn
abbrev Ba7:Env × List B->Env × List B:=λ e=>(Cw e.1,e.2)
theorem Ux{env:Env}{ls:List B}{n:B}(he:E1 env)(hn:NW n)(p q kind:Nat)(t:B):RS (λ e:Env × List B=>E1 e.1) Ba7 (Ck.loc env ls n p kind t) (Ck.loc (Cw env) ls (rho n) q kind t):=
 (P5 he hn p q _).bind λ e h=>(An _ _ _ _).rs λ _=>.ok rfl h
theorem P6{env:Env}{n:B}(he:E1 env)(hn:NW n)(p q:Nat):Sim (Ck.targ env n p) (Ck.targ (Cw env) (rho n) q):=by
 unfold Ck.targ;rw[Kl he hn];exact (An _ _ _ _).bind λ _=>(An _ _ _ _).bind λ _=>rfl
theorem Ag9(l:List Ex):(Px.rnsE l).length=l.length:=by rw[Px.rnsE_map,length_map]
abbrev stF:St1->St1:=λ a=>(a.1,Cw a.2.1,a.2.2)
abbrev Bc7:List CS × Env × List B->List CS × Env × List B:=λ a=>(a.1,Cw a.2.1,a.2.2)
theorem Ah0{V:Nat->B->Nat->Prop}(hV:VN V){k:Nat}{n:B}{len:Nat}{b c:List St}(h:FormS V k n len b c):NW n:=by
 rcases h with⟨_,h,_⟩ | ⟨_,h,_⟩ | ⟨_,h,_⟩ | ⟨_,rfl,_⟩ | ⟨_,h,_⟩ | ⟨_,rfl,_⟩
 .exact hV.one _ _ h.2
 .exact hV.one _ _ h.2
 .exact hV.one _ _ h.2
 .exact λ c hc=>by cases hc
 .exact hV.one _ _ h.2
 .exact λ c hc=>by cases hc
mutual
theorem Ba8{V:Nat->B->Nat->Prop}(hV:VN V)(k:Kx):∀(s:St) (env:Env) (ls:List B),E1 env->WfS V s->RS (λ a:St1=>E1 a.2.1) stF (cS k env ls s) (cS k (Cw env) ls s.rn)
 | .mk kind n es body other p,env,ls,he,hw=>by
  rw[WfS] at hw;obtain⟨hf,a0,hb,hc⟩:=hw;have hn:=Ah0 hV hf;have h:=P4 hV (c:=k.at env) he es (Px.WfEs_all.2 a0);have a3:Sn (k.at env)=k.at (Cw env):=rfl;rw[a3] at h;rw[Px.St.rn,cS,cS];simp only[Ag9]
  repeat' split
  .exact (h.arg 0).rs λ x=>(Ux he hn _ _ _ _).bind λ e h1=>.ok rfl h1
  .exact (P6 he hn _ _).rs λ m=>(Dr.asked (h.arg 0) _).rs λ x=>.ok rfl he
  .exact (P6 he hn _ _).rs λ m=>(An _ _ _ _).rs λ _=>(Dr.asked (h.arg 0) _).rs λ x=>(Dr.asked (h.arg 1) _).rs λ y=>.ok rfl he
  .exact (P6 he hn _ _).rs λ m=>(An _ _ _ _).rs λ _=>(Dr.asked (h.arg 0) _).rs λ x=>.ok rfl he
  .exact (Dr.asked (h.arg 0) _).rs λ x=>(L2 hV k body env ls he hb).bind λ a _=>(L2 hV k other env a.2.2 he hc).bind λ b _=>.ok rfl he
  .exact (Dr.asked (h.arg 0) _).rs λ x=>(Ux he hn _ _ _ _).bind λ e h1=>(L2 hV k body e.1 e.2 h1 hb).bind λ a _=>.ok rfl he
  .exact (Dr.asked (h.arg 0) _).rs λ x=>.ok rfl he
theorem L2{V:Nat->B->Nat->Prop}(hV:VN V)(k:Kx):∀(l:List St) (env:Env) (ls:List B),E1 env->Cg V l->RS (λ a:List CS × Env × List B=>E1 a.2.1) Bc7 (cSs k env ls l) (cSs k (Cw env) ls (Px.rnsS l))
 | [],env,ls,he,_=>by rw[Px.rnsS,cSs,cSs];exact .ok rfl he
 | s :: r,env,ls,he,hw=>by
  rw[Cg] at hw;rw[Px.rnsS,cSs,cSs];exact (Ba8 hV k s env ls he hw.1).bind λ a h1=>(L2 hV k r a.2.1 a.2.2 h1 hw.2).bind λ b h2=>.ok rfl h2
end
theorem Og{V:Nat->B->Nat->Prop}(hV:VN V):∀(l:List Sl) (env:Env) (i:Nat),E1 env->(∀s∈l,WfSl V s)->RS E1 Cw (Ck.states env i l) (Ck.states (Cw env) i (l.map Px.Sl.rn))
 | [],env,i,he,_=>.ok rfl he
 | s :: r,env,i,he,hw=>by
  simp only[map_cons,Ck.states];exact (An _ _ _ _).rs λ _=>(P5 he (hV.one _ _ (hw s (AC ..)).1.2) _ _ _).bind λ e h1=>Og hV r e (i+1) h1 λ x hx=>hw x (AH _ hx)
theorem Oh:∀(l:List Sl) (i:Nat),Sim (Ck.params i l) (Ck.params i (l.map Px.Sl.rn))
 | [],i=>Sim.refl _
 | s :: r,i=>by
  simp only[map_cons,Ck.params];exact (An _ _ _ _).bind λ _=>Oh r (i+1)
theorem Ah1{V:Nat->B->Nat->Prop}(hV:VN V):∀(l:List Px.Fn) (env:Env) (i:Nat),E1 env->(∀f∈l,WfF V f)->RS E1 Cw (Ck.fns env i l) (Ck.fns (Cw env) i (l.map Px.Fn.rn))
 | [],env,i,he,_=>.ok rfl he
 | f :: r,env,i,he,hw=>by
  simp only[map_cons,Ck.fns];exact (An _ _ _ _).rs λ _=>(P5 he (hV.one _ _ (hw f (AC ..)).1.2) _ _ _).bind λ e h1=>(Oh f.params 0).rs λ _=>Ah1 hV r e (i+1) h1 λ x hx=>hw x (AH _ hx)
theorem W3{V:Nat->B->Nat->Prop}(hV:VN V):∀(l:List Sl) (env:Env) (ls:List B),E1 env->(∀s∈l,WfSl V s)->RS (λ e:Env × List B=>E1 e.1) Ba7 (Ck.locs env ls l) (Ck.locs (Cw env) ls (l.map Px.Sl.rn))
 | [],env,ls,he,_=>.ok rfl he
 | s :: r,env,ls,he,hw=>by
  simp only[map_cons,Ck.locs];exact (Ux he (hV.one _ _ (hw s (AC ..)).1.2) _ _ _ _).bind λ e h1=>W3 hV r e.1 e.2 h1 λ x hx=>hw x (AH _ hx)
abbrev slF:B × B->B × B:=λ s=>(rho s.1,s.2)
def M2(f:CF):CF:=⟨rho f.name,f.on,f.params.map slF,f.result,f.locals,f.body⟩
def L3(c:CP):CP:=⟨c.version,c.states.map slF,c.fns.map M2⟩
theorem So(l:List Sl):Ck.slots (l.map Px.Sl.rn)=(Ck.slots l).map slF:=by
 unfold Ck.slots;rw[map_map,map_map];rfl
theorem Ba9(f:Px.Fn):Ck.hd f.rn=Ck.hd f:=by
 unfold Ck.hd Px.Fn.rn;simp only[map_map];rfl
theorem Bb0{V:Nat->B->Nat->Prop}(hV:VN V)(hs:List Hd)(env:Env)(i:Nat)(f:Px.Fn)(he:E1 env)(hw:WfF V f):RS (λ _=>True) M2 (Ck.fn hs env i f) (Ck.fn hs (Cw env) i f.rn):=by
 unfold Ck.fn;refine (W3 hV f.params env [] he hw.2.1).bind λ e h1=>(L2 hV _ f.body e.1 e.2 h1 hw.2.2.2.1).bind λ a _=>.ok ?_ trivial
 unfold M2;congr 1;exact So f.params
theorem Oi{V:Nat->B->Nat->Prop}(hV:VN V)(hs:List Hd)(env:Env)(he:E1 env):∀(l:List Px.Fn) (i:Nat),(∀f∈l,WfF V f)->RS (λ _=>True) (List.map M2) (Ck.bodies hs env i l) (Ck.bodies hs (Cw env) i (l.map Px.Fn.rn))
 | [],i,_=>.ok rfl trivial
 | f :: r,i,hw=>by
  simp only[map_cons,Ck.bodies];exact (Bb0 hV hs env i f he (hw f (AC ..))).bind λ x _=>(Oi hV hs env he r (i+1) λ y hy=>hw y (AH _ hy)).bind λ xs _=>.ok rfl trivial
theorem Ah2{V:Nat->B->Nat->Prop}(hV:VN V){p:Pr}(hw:WfP V p):RS (λ _=>True) L3 (Ck.check p) (Ck.check p.rn):=by
 unfold Ck.check;refine (An _ _ _ _).rs λ _=>(Og hV p.states [] 0 (λ x hx=>by cases hx) hw.2.1).bind λ e1 h1=>(Ah1 hV p.fns e1 0 h1 hw.2.2).bind λ e2 h2=>?_
 have h:p.rn.fns.map Ck.hd=p.fns.map Ck.hd:=by
  show (p.fns.map Px.Fn.rn).map Ck.hd=_;rw[map_map];exact map_congr_left λ f _=>Ba9 f
 rw[h];refine (Oi hV _ e2 h2 p.fns 0 hw.2.2).bind λ fs _=>.ok ?_ trivial
 unfold L3;congr 1;exact So p.states
theorem check_both{V:Nat->B->Nat->Prop}(hV:VN V){p q:Pr}(hw:WfP V p)(h:p.rn=q.er):(∃c,Ck.check p=.inl c/\Ck.check q=.inl (L3 c))\/∃a b e,Ck.check p=.inr (a,e)/\Ck.check q=.inr (b,e):=by
 have h1:=Ah2 hV hw;have h2:=Ag2 q;rw[<-h] at h2;rcases e1:Ck.check p with c | ⟨a,e⟩ <;> rcases e2:Ck.check p.rn with c' | ⟨a',e'⟩ <;> rw[e1,e2] at h1 <;> rcases e3:Ck.check q with d | ⟨b,x⟩ <;> rw[e2,e3] at h2
 .obtain⟨rfl,-⟩:=h1;have h2:d=L3 c:=h2;subst h2;exact AI ⟨c,rfl,rfl⟩
 .exact h2.elim
 .exact h1.elim
 .exact h1.elim
 .exact h1.elim
 .exact h1.elim
 .exact h2.elim
 .have h1:e=e':=h1;have h2:x=e':=h2;subst h1;subst h2;exact AJ ⟨a,b,_,rfl,rfl⟩
end Ck
namespace Px
open Lx (Tok B)
mutual
def Ot(N:Nat):Ex->Prop
 | .mk k o n t args p=>args.length<=N/\H5 N args
def H5(N:Nat):List Ex->Prop
 | []=>True
 | e :: r=>Ot N e/\H5 N r
end
mutual
def S6(N:Nat):St->Prop
 | .mk k n es b c p=>(∀e∈es,Ot N e)/\b.length<=N/\c.length<=N/\Gn N b/\Gn N c
def Gn(N:Nat):List St->Prop
 | []=>True
 | s :: r=>S6 N s/\Gn N r
end
theorem Jo:∀l:List (List Tok),(∀a∈l,1<=a.length)->l.length<=(Bv l).length/\∀a∈l,a.length<=(Bv l).length
 | [],_=>⟨by simp[Bv],λ a ha=>by cases ha⟩
 | [a],h=>⟨by have:=h a (by simp);simp[Bv];omega,λ x hx=>by simp at hx;subst hx;simp[Bv]⟩
 | a :: b :: r,h=>by
  have ih:=Jo (b :: r) (λ x hx=>h x (AH _ hx));have h1:=h a (by simp);have e:(Bv (a :: b :: r)).length=a.length+1+(Bv (b :: r)).length:=by simp[Bv];omega
  refine⟨by rw[e];simp at ih ⊢;omega,λ x hx=>?_⟩;rw[e];rcases mem_cons.1 hx with rfl | hx
  .omega
  .have:=ih.2 x hx;omega
theorem G4(b:Bool)(l:List Tok):l.length<=(within b l).length:=by
 unfold within;split
 .simp;omega
 .exact AD _
theorem Ff(e:Ex):1<=(exT e).length:=by
 obtain⟨k,o,n,t,args,p⟩:=e;rw[exT];unfold exK
 repeat' split
 all_goals simp
 all_goals omega
theorem Ou:∀l:List Ex,(D9 l).length=l.length
 | []=>rfl
 | e :: r=>by simp[D9,Ou r]
theorem Ov:∀{l:List Ex} {e:Ex},e∈l->exT e∈D9 l
 | a :: r,e,h=>by
  rw[D9];rcases mem_cons.1 h with rfl | h
  .exact AC ..
  .exact AH _ (Ov h)
theorem Ow:∀{l:List Ex} {a:List Tok},a∈D9 l->∃e∈l,exT e=a
 | x :: r,a,h=>by
  rw[D9] at h;rcases mem_cons.1 h with rfl | h
  .exact⟨x,AC ..,rfl⟩
  .obtain⟨e,h1,h2⟩:=Ow h;exact⟨e,AH _ h1,h2⟩
mutual
theorem S7{V:Nat->B->Nat->Prop}{N:Nat}:∀e:Ex,WfE V e->(exT e).length<=N->Ot N e
 | .mk k o n t args p,hw,hN=>by
  rw[WfE] at hw;obtain⟨hf,ha⟩:=hw;have a0:args.length<=N/\∀x∈args,(exT x).length<=N:=by
   rw[exT] at hN;rcases hf with⟨-,-,-,hl,-⟩ | ⟨-,-,-,hl,-⟩ | ⟨-,-,-,hl,-⟩ | ⟨-,-,-,hl,-⟩ | ⟨rfl,-⟩ | ⟨rfl,-,-,-,hl⟩ | ⟨hk,-,-,-,hl⟩ | ⟨rfl,-,-,-,-,hl⟩
   .have:args=[]:=length_eq_zero_iff.1 hl;subst this;exact⟨AO _,λ x hx=>by cases hx⟩
   .have:args=[]:=length_eq_zero_iff.1 hl;subst this;exact⟨AO _,λ x hx=>by cases hx⟩
   .have:args=[]:=length_eq_zero_iff.1 hl;subst this;exact⟨AO _,λ x hx=>by cases hx⟩
   .have:args=[]:=length_eq_zero_iff.1 hl;subst this;exact⟨AO _,λ x hx=>by cases hx⟩
   .have h1:=Jo (D9 args) (λ a h=>by
     obtain⟨e,-,rfl⟩:=Ow h;exact Ff e)
    simp[exK] at hN;rw[Ou] at h1;exact⟨by omega,λ x hx=>by have:=h1.2 _ (Ov hx);omega⟩
   .obtain⟨x,y,rfl⟩:∃x y,args=[x,y]:=by
     match args,hl with
     | [x,y],_=>exact⟨x,y,rfl⟩
    have h0:=G4 (lowE 7 (([x,y]:List Ex).getD 0 default)) ((D9 [x,y]).getD 0 []);simp[exK,D9] at hN h0;have:=Ff x;have:=Ff y;refine⟨by simp;omega,λ z hz=>?_⟩;simp at hz;rcases hz with rfl | rfl
    .omega
    .omega
   .obtain⟨x,rfl⟩:=length_eq_one_iff.1 hl;have h0:=G4 (lowE 6 (([x]:List Ex).getD 0 default)) ((D9 [x]).getD 0 []);have:=Ff x;have a3:1+(exT x).length<=N:=by
     rcases hk with rfl | rfl
     .simp[exK,D9] at hN h0;omega
     .simp[exK,D9] at hN h0;omega
    refine⟨by simp;omega,λ z hz=>?_⟩;simp at hz;subst hz;omega
   .obtain⟨x,y,rfl⟩:∃x y,args=[x,y]:=by
     match args,hl with
     | [x,y],_=>exact⟨x,y,rfl⟩
    have h0:=G4 (lowE (lv o) (([x,y]:List Ex).getD 0 default)) ((D9 [x,y]).getD 0 []);have h1:=G4 (lowE (opL o+1) (([x,y]:List Ex).getD 1 default)) ((D9 [x,y]).getD 1 []);simp[exK,D9] at hN h0 h1;have:=Ff x;have:=Ff y;refine⟨by simp;omega,λ z hz=>?_⟩;simp at hz;rcases hz with rfl | rfl
    .omega
    .omega
  rw[Ot];exact⟨a0.1,Ox args ha a0.2⟩
theorem Ox{V:Nat->B->Nat->Prop}{N:Nat}:∀l:List Ex,WfEs V l->(∀x∈l,(exT x).length<=N)->H5 N l
 | [],_,_=>by rw[H5];trivial
 | e :: r,hw,hN=>by
  rw[WfEs] at hw;rw[H5];exact⟨S7 e hw.1 (hN e (AC ..)),Ox r hw.2 (λ x hx=>hN x (AH _ hx))⟩
end
theorem Ak4(s:St):1<=(stT s).length:=by
 obtain⟨k,n,es,b,c,p⟩:=s;rw[stT];unfold stK
 repeat' split
 all_goals simp
theorem stsT_le:∀l:List St,l.length<=(Ci l).length/\∀s∈l,(stT s).length<=(Ci l).length
 | []=>⟨by simp,λ s hs=>by cases hs⟩
 | s :: r=>by
  have ih:=stsT_le r;have:=Ak4 s;rw[Ci];refine⟨by simp;omega,λ x hx=>?_⟩;rw[length_append];rcases mem_cons.1 hx with rfl | hx
  .omega
  .have:=ih.2 x hx;omega
mutual
theorem Ak5{V:Nat->B->Nat->Prop}{N:Nat}:∀s:St,WfS V s->(stT s).length<=N->S6 N s
 | .mk k n es b c p,hw,hN=>by
  rw[WfS] at hw;obtain⟨hf,he,hb,hc⟩:=hw;have a0:(∀e∈es,(exT e).length<=N)/\(Ci b).length<=N/\(Ci c).length<=N:=by
   rw[stT] at hN;rcases hf with⟨rfl,-,hl,rfl,rfl⟩ | ⟨rfl,-,hl,rfl,rfl⟩ | ⟨rfl,-,hl,rfl,rfl⟩ | ⟨rfl,-,hl⟩ | ⟨rfl,-,hl,rfl⟩ | ⟨rfl,-,hl,rfl,rfl⟩
   .obtain⟨x,rfl⟩:=length_eq_one_iff.1 hl;simp[stK] at hN;exact⟨λ e he=>(by simp at he;subst he;omega),(by simp[Ci]),(by simp[Ci])⟩
   .rcases hl with hl | hl
    .obtain⟨x,rfl⟩:=length_eq_one_iff.1 hl;simp[stK] at hN;exact⟨λ e he=>(by simp at he;subst he;omega),(by simp[Ci]),(by simp[Ci])⟩
    .obtain⟨x,y,rfl⟩:∃x y,es=[x,y]:=by
      match es,hl with
      | [x,y],_=>exact⟨x,y,rfl⟩
     simp[stK] at hN;exact⟨λ e he=>(by simp at he;rcases he with rfl | rfl <;> omega),(by simp[Ci]),(by simp[Ci])⟩
   .obtain⟨x,rfl⟩:=length_eq_one_iff.1 hl;simp[stK] at hN;exact⟨λ e he=>(by simp at he;subst he;omega),(by simp[Ci]),(by simp[Ci])⟩
   .obtain⟨x,rfl⟩:=length_eq_one_iff.1 hl;rcases c with _ | ⟨c1,c2⟩
    .simp[stK,blk] at hN;exact⟨λ e he=>(by simp at he;subst he;omega),(by omega),(by simp[Ci])⟩
    .simp[stK,blk] at hN;exact⟨λ e he=>(by simp at he;subst he;omega),(by omega),(by omega)⟩
   .obtain⟨x,rfl⟩:=length_eq_one_iff.1 hl;simp[stK,blk] at hN;exact⟨λ e he=>(by simp at he;subst he;omega),(by omega),(by simp[Ci])⟩
   .obtain⟨x,rfl⟩:=length_eq_one_iff.1 hl;simp[stK] at hN;exact⟨λ e he=>(by simp at he;subst he;omega),(by simp[Ci]),(by simp[Ci])⟩
  have a4:=(stsT_le b).1;have a3:=(stsT_le c).1;rw[S6];exact⟨λ e h=>S7 e (he e h) (a0.1 e h),by omega,by omega,stmles_of b hb a0.2.1,stmles_of c hc a0.2.2⟩
theorem stmles_of{V:Nat->B->Nat->Prop}{N:Nat}:∀l:List St,Cg V l->(Ci l).length<=N->Gn N l
 | [],_,_=>by rw[Gn];trivial
 | s :: r,hw,hN=>by
  rw[Cg] at hw;rw[Ci,length_append] at hN;rw[Gn];exact⟨Ak5 s hw.1 (by omega),stmles_of r hw.2 (by omega)⟩
end
theorem ssT_le:∀l:List Sl,l.length<=(ssT l).length
 | []=>by simp
 | s :: r=>by
  have:=ssT_le r;simp[ssT];omega
theorem fsT_le:∀l:List Fn,l.length<=(fsT l).length
 | []=>by simp
 | s :: r=>by
  have:=fsT_le r;simp[fsT];omega
theorem Aq8(s:Sl):1<=(slT s).length:=by simp[slT]
theorem fnT_le(f:Fn):f.params.length<=(fnT f).length/\(Ci f.body).length<=(fnT f).length:=by
 have h:=(Jo (f.params.map slT) (λ a h=>by
  obtain⟨s,-,rfl⟩:=mem_map.1 h;exact Aq8 s)).1
 rw[length_map] at h;simp[fnT,blk];omega
end Px
namespace Ck
open Lx (B)
open Px (Ex St Sl Pr)
theorem Oa{sts:List B}:∀(l:List Sl) (env e:Env) (i:Nat),(∀(j:Nat) s,l[j]?=some s->sts[i+j]?=some s.type)->(∀s∈l,VT s.type)->Dl sts [] env->states env i l=.inl e->Dl sts [] e
 | [],env,e,i,h1,h2,he,h=>by cases h;exact he
 | s :: r,env,e,i,h1,h2,he,h=>by
  rw[states] at h;obtain⟨_,a1,h⟩:=bd h;obtain⟨e1,a2,h⟩:=bd h;obtain⟨_,a3,a2⟩:=bd a2;cases a2;refine Oa r _ e (i+1) (λ j s' hj=>by have:=h1 (j+1) s' (by simpa using hj);rw[show i+1+j=i+(j+1) by omega];exact this) (λ s' hs=>h2 s' (AH _ hs)) (λ x hx=>?_) h;rcases mem_append.1 hx with hx | hx
  .exact he x hx
  .simp at hx;subst hx;exact AI ⟨rfl,by have:=h1 0 s rfl;simpa using this,h2 s (AC ..)⟩
theorem Af9{sts:List B}:∀(l:List Px.Fn) (env e:Env) (i:Nat),Dl sts [] env->fns env i l=.inl e->Dl sts [] e
 | [],env,e,i,he,h=>by cases h;exact he
 | f :: r,env,e,i,he,h=>by
  rw[fns] at h;obtain⟨_,a1,h⟩:=bd h;obtain⟨e1,a2,h⟩:=bd h;obtain⟨_,a4,h⟩:=bd h;obtain⟨_,a3,a2⟩:=bd a2;cases a2;refine Af9 r _ e (i+1) (λ x hx=>?_) h;rcases mem_append.1 hx with hx | hx
  .exact he x hx
  .simp at hx;subst hx;exact AJ (AI rfl)
theorem P0{sts:List B}:∀(l:List Sl) (env:Env) (ls:List B) (e:Env × List B),(∀s∈l,VT s.type)->Dl sts ls env->locs env ls l=.inl e->e.2=ls ++ l.map (·.type)/\Dl sts e.2 e.1
 | [],env,ls,e,h2,he,h=>by cases h;exact⟨by simp,he⟩
 | s :: r,env,ls,e,h2,he,h=>by
  rw[locs] at h;obtain⟨e1,a1,h⟩:=bd h;obtain⟨b1,b2⟩:=Jh (AI rfl) (h2 s (AC ..)) he a1;obtain⟨c1,c2⟩:=P0 r e1.1 e1.2 e (λ s' hs=>h2 s' (AH _ hs)) b2 h;exact⟨by rw[c1,b1];simp,c2⟩
structure FnCl(sts:List B)(hs:List Hd)(n:Nat)(f:Px.Fn)(x:CF):Prop where
 name:x.name=f.name
 on:x.on=f.on
 par:x.params=slots f.params
 res:x.result=f.result
 loc:∃m,x.locals=f.params.map (·.type) ++ m
 body:Ft sts hs n x.locals x.body
theorem Ba2{sts:List B}{hs:List Hd}(hh:HOk sts hs)(hi:i<=hs.length){env:Env}(he:Dl sts [] env){f:Px.Fn}(hp:∀s∈f.params,VT s.type)(hb:J9 f.body){x:CF}(h:fn hs env i f=.inl x):FnCl sts hs i f x:=by
 obtain⟨e,a1,h⟩:=bd h;obtain⟨a,a2,h⟩:=bd h;cases h;obtain⟨b1,b2⟩:=P0 f.params env [] e hp he a1;obtain⟨⟨m,c1⟩,c2,c3⟩:=Fc (k:=⟨i,hs,f.result⟩) hh hi f.body e.1 e.2 a b2 hb a2;exact⟨rfl,rfl,rfl,rfl,⟨m,by show a.2.2=_;rw[c1,b1];simp⟩,c3⟩
structure PrW(p:Pr):Prop where
 st:∀s∈p.states,VT s.type
 res:∀f∈p.fns,VT f.result
 par:∀f∈p.fns,∀s∈f.params,VT s.type
 body:∀f∈p.fns,J9 f.body
end Ck
namespace Px
open Lx (Tok B)
mutual
def PlE(n:Nat):Ex->Prop
 | .mk _ _ _ _ a p=>p<=n/\Ap3 n a
def Ap3(n:Nat):List Ex->Prop
 | []=>True
 | e :: r=>PlE n e/\Ap3 n r
end
mutual
def PlS(n:Nat):St->Prop
 | .mk _ _ es b c p=>p<=n/\Ap3 n es/\Ah4 n b/\Ah4 n c
def Ah4(n:Nat):List St->Prop
 | []=>True
 | e :: r=>PlS n e/\Ah4 n r
end
def PlF(n:Nat)(f:Fn):Prop:=f.place<=n/\(∀s∈f.params,s.place<=n)/\Ah4 n f.body
def PlP(n:Nat)(p:Pr):Prop:=(∀s∈p.states,s.place<=n)/\∀f∈p.fns,PlF n f
end Px
namespace Ck
open Lx (B)
open Px (Ex St Sl Pr PlE Ap3 PlS Ah4 PlF PlP)
end Ck
namespace Ck
open Px (Ex St Sl Pr WfE WfEs WfS Cg WfP G9 FormS)
mutual
theorem Ah5{V:Nat->Lx.B->Nat->Prop}:∀{x:Ex},WfE V x->NoE x
 | .mk k o n t args p,h=>by
  rw[WfE] at h;rw[NoE];obtain⟨hf,ha⟩:=h;rcases hf with⟨rfl,_⟩ | ⟨rfl,_⟩ | ⟨rfl,_⟩ | ⟨rfl,_⟩ | ⟨rfl,_⟩ | ⟨rfl,_⟩ | ⟨rfl | rfl,_⟩ | ⟨rfl,_⟩ <;> exact⟨by decide,by decide,W4 ha⟩
theorem W4{V:Nat->Lx.B->Nat->Prop}:∀{l:List Ex},WfEs V l->Lt l
 | [],_=>by rw[Lt];trivial
 | x :: r,h=>by
  rw[WfEs] at h;rw[Lt];exact⟨Ah5 h.1,W4 h.2⟩
end
theorem Sp{V:Nat->Lx.B->Nat->Prop}:∀{l:List Ex},(∀e∈l,WfE V e)->Lt l
 | [],_=>by rw[Lt];trivial
 | x :: r,h=>by
  rw[Lt];exact⟨Ah5 (h x (AC ..)),Sp λ y hy=>h y (AH _ hy)⟩
mutual
theorem Aw6{V:Nat->Lx.B->Nat->Prop}:∀{x:St},WfS V x->NoS x
 | .mk k n es b c p,h=>by
  rw[WfS] at h;rw[NoS];obtain⟨hf,h1,h2,h3⟩:=h;refine⟨?_,Sp h1,G1 h2,G1 h3⟩;rcases hf with⟨rfl,_⟩ | ⟨rfl,_⟩ | ⟨rfl,_⟩ | ⟨rfl,_⟩ | ⟨rfl,_⟩ | ⟨rfl,_⟩ <;> simp
theorem G1{V:Nat->Lx.B->Nat->Prop}:∀{l:List St},Cg V l->J9 l
 | [],_=>by rw[J9];trivial
 | x :: r,h=>by
  rw[Cg] at h;rw[J9];exact⟨Aw6 h.1,G1 h.2⟩
end
theorem Aw7{V:Nat->Lx.B->Nat->Prop}{p:Pr}(h:WfP V p):PrW p where
 st:=λ s hs=>.of (h.2.1 s hs).2
 res:=λ f hf=>.of (h.2.2 f hf).2.2.1
 par:=λ f hf s hs=>.of ((h.2.2 f hf).2.1 s hs).2
 body:=λ f hf=>G1 (h.2.2 f hf).2.2.2.1
theorem tyT_len:∀T:Vv.Ty,(Vv.tyT T).length<=7*T.dp
 | .int=>by simp[Vv.tyT,Vv.Ty.dp]
 | .bool=>by simp[Vv.tyT,Vv.Ty.dp]
 | .text=>by simp[Vv.tyT,Vv.Ty.dp]
 | .list T=>by have:=tyT_len T;simp[Vv.tyT,Vv.Ty.dp];omega
 | .map a T=>by have:=tyT_len T;cases a <;> simp[Vv.tyT,Vv.keyT,Vv.Ty.dp] <;> omega
end Ck
namespace Ck
open Lx (B)
open Px (Ex St Sl Pr WfE WfEs WfS Cg WfP WfF)
mutual
def T0E:CE->Prop
 | .mk k o n t s y a=>t=[]/\G7 a
def G7:List CE->Prop
 | []=>True
 | e :: r=>T0E e/\G7 r
end
mutual
def T0S:CS->Prop
 | .mk k s f n es b c=>G7 es/\P7 b/\P7 c
def P7:List CS->Prop
 | []=>True
 | e :: r=>T0S e/\P7 r
end
abbrev Q0(r:R CE):Prop:=∀y,r=.inl y->T0E y
def Qs0(l:List Q):Prop:=∀q∈l,Q0 q.1
theorem Qs0.arg{l:List Q}(h:Qs0 l)(i:Nat):Q0 (Ck.arg l i).1:=by
 intro y e;unfold Ck.arg at e;rw[getD_eq_getElem?_getD] at e;rcases hi:l[i]? with _ | q
 .rw[hi] at e;cases e
 .rw[hi] at e;exact h q (mem_of_getElem? hi) y e
theorem D4{q:Q}(h:Q0 q.1){t:B}{y:CE}(e:asked q t=.inl y):T0E y:=by
 obtain⟨x,h1,e⟩:=bd e;obtain⟨_,h2,e⟩:=bd e;cases e;exact h _ h1
theorem Bb1:∀{l:List Q} {ts:List B} {xs:List CE},Qs0 l->all l ts=.inl xs->G7 xs
 | [],ts,xs,h,e=>by
  simp[all] at e;subst e;rw[G7];trivial
 | q :: r,[],xs,h,e=>by
  simp[all] at e;subst e;rw[G7];trivial
 | q :: r,t :: ts,xs,h,e=>by
  rw[all] at e;obtain⟨x,h1,e⟩:=bd e;obtain⟨ys,h2,e⟩:=bd e;cases e;rw[G7];exact⟨D4 (h q (AC ..)) h1,Bb1 (λ y hy=>h y (AH _ hy)) h2⟩
theorem t0_mk{k o n s:Nat}{y:B}{a:List CE}(h:G7 a):T0E (.mk k o n [] s y a):=by rw[T0E];exact⟨rfl,h⟩
theorem t0_nil:G7 []:=by rw[G7];trivial
theorem E2{x:CE}(h:T0E x):G7 [x]:=by rw[G7];exact⟨h,t0_nil⟩
theorem P8{x y:CE}(h:T0E x)(k:T0E y):G7 [x,y]:=by rw[G7];exact⟨h,E2 k⟩
theorem As2{c:Cx}{k o nn:Nat}{t:B}{qs:List Q}(h3:k≠3)(hq:Qs0 qs):Q0 (comb c k o nn t p qs):=by
 intro y e;unfold comb at e;split at e
 .cases e;exact t0_mk t0_nil
 split at e
 .cases e;exact t0_mk t0_nil
 split at e
 .obtain⟨_,h1,e⟩:=bd e;cases e;exact t0_mk t0_nil
 split at e
 .split at e
  .obtain⟨_,h1,e⟩:=bd e;obtain⟨_,h2,e⟩:=bd e;obtain⟨_,h3,e⟩:=bd e;obtain⟨xs,h8,e⟩:=bd e;cases e;exact t0_mk (Bb1 hq h8)
  .obtain⟨_,h1,e⟩:=bd e;obtain⟨x,h2,e⟩:=bd e;obtain⟨_,h3,e⟩:=bd e;have g0:=hq.arg 0 x h2;split at e
   .obtain⟨y',h8,e⟩:=bd e;cases e;exact t0_mk (P8 g0 (D4 (hq.arg 1) h8))
   .cases e
    exact t0_mk (E2 g0)
 split at e
 .obtain⟨x,h2,e⟩:=bd e;obtain⟨_,h3,e⟩:=bd e;obtain⟨y',h8,e⟩:=bd e;cases e;exact t0_mk (P8 (hq.arg 0 x h2) (D4 (hq.arg 1) h8))
 split at e
 .obtain⟨x,h2,e⟩:=bd e;cases e;exact t0_mk (E2 (D4 (hq.arg 0) h2))
 split at e
 .obtain⟨x,h2,e⟩:=bd e;cases e;exact t0_mk (E2 (D4 (hq.arg 0) h2))
 .obtain⟨x,h1,e⟩:=bd e;obtain⟨y',h2,e⟩:=bd e;obtain⟨_,h3,e⟩:=bd e;cases e;exact t0_mk (P8 (hq.arg 0 x h1) (hq.arg 1 y' h2))
mutual
theorem cE0{V:Nat->B->Nat->Prop}(hV:VN V)(c:Cx):∀x:Ex,WfE V x->Q0 (cE c x)
 | .mk k o n t args p,h=>by
  rw[WfE] at h;rw[cE];exact As2 (It hV h.1).1 (Ap2 hV c args h.2)
theorem Ap2{V:Nat->B->Nat->Prop}(hV:VN V)(c:Cx):∀l:List Ex,WfEs V l->Qs0 (cEs c l)
 | [],_=>by rw[cEs];exact λ q hq=>by cases hq
 | .mk k o n t args p :: r,h=>by
  rw[WfEs,WfE] at h;rw[cEs];intro q hq;rcases mem_cons.1 hq with rfl | hq
  .show Q0 (cE c _);rw[cE];exact As2 (It hV h.1.1).1 (Ap2 hV c args h.1.2)
  .exact Ap2 hV c r h.2 q hq
end
theorem t0s_nil:P7 []:=by rw[P7];trivial
mutual
theorem cS0{V:Nat->B->Nat->Prop}(hV:VN V)(k:Kx):∀(s:St) (env:Env) (ls:List B) (r:St1),WfS V s->cS k env ls s=.inl r->T0S r.1
 | .mk kind n es body other p,env,ls,r,hw,e=>by
  rw[WfS] at hw;obtain⟨-,a0,hb,hc⟩:=hw;have hq:=Ap2 hV (k.at env) es (Px.WfEs_all.2 a0);rw[cS] at e;split at e
  .obtain⟨x,a1,e⟩:=bd e;obtain⟨e1,a2,e⟩:=bd e;cases e;rw[T0S];exact⟨E2 (hq.arg 0 x a1),t0s_nil,t0s_nil⟩
  split at e
  .obtain⟨m,a1,e⟩:=bd e;split at e
   .obtain⟨x,a2,e⟩:=bd e;cases e;rw[T0S];exact⟨E2 (D4 (hq.arg 0) a2),t0s_nil,t0s_nil⟩
   .obtain⟨_,a2,e⟩:=bd e;obtain⟨x,a3,e⟩:=bd e;obtain⟨y,a4,e⟩:=bd e;cases e;rw[T0S];exact⟨P8 (D4 (hq.arg 0) a3) (D4 (hq.arg 1) a4),t0s_nil,t0s_nil⟩
  split at e
  .obtain⟨m,a1,e⟩:=bd e;obtain⟨_,a2,e⟩:=bd e;obtain⟨x,a3,e⟩:=bd e;cases e;rw[T0S];exact⟨E2 (D4 (hq.arg 0) a3),t0s_nil,t0s_nil⟩
  split at e
  .obtain⟨x,a1,e⟩:=bd e;obtain⟨a,a2,e⟩:=bd e;obtain⟨b,a3,e⟩:=bd e;cases e;rw[T0S];exact⟨E2 (D4 (hq.arg 0) a1),Ah3 hV k body env ls a hb a2,Ah3 hV k other env a.2.2 b hc a3⟩
  split at e
  .obtain⟨x,a1,e⟩:=bd e;obtain⟨e1,a2,e⟩:=bd e;obtain⟨a,a3,e⟩:=bd e;cases e;rw[T0S];exact⟨E2 (D4 (hq.arg 0) a1),Ah3 hV k body e1.1 e1.2 a hb a3,t0s_nil⟩
  .obtain⟨x,a1,e⟩:=bd e;cases e;rw[T0S];exact⟨E2 (D4 (hq.arg 0) a1),t0s_nil,t0s_nil⟩
theorem Ah3{V:Nat->B->Nat->Prop}(hV:VN V)(k:Kx):∀(l:List St) (env:Env) (ls:List B) (r:List CS × Env × List B),Cg V l->cSs k env ls l=.inl r->P7 r.1
 | [],env,ls,r,_,e=>by
  rw[cSs] at e;cases e;exact t0s_nil
 | s :: l,env,ls,r,hw,e=>by
  rw[Cg] at hw;rw[cSs] at e;obtain⟨a,a1,e⟩:=bd e;obtain⟨b,a2,e⟩:=bd e;cases e;rw[P7];exact⟨cS0 hV k s env ls a hw.1 a1,Ah3 hV k l a.2.1 a.2.2 b hw.2 a2⟩
end
end Ck
end
section
open Lx (B rho NoQ)
open Ck (NW VN VT)
def VR(k:Nat)(x:B)(n:Nat):Prop:=k≠3/\(k=1->x≠[]/\∀c∈x,Lx.isPart c=true/\c≠119)
theorem Aw8{x:UInt8}{r:B}{k:Nat}{t:B}{n:Nat}(hq:NoQ (x :: r))(h:Lx.tokR true (x :: r)=Lx.R.ok k t m n):VR k t m:=by
 simp only[Lx.tokR] at h;split at h
 .rename_i hl;unfold Lx.nameR at h;split at h
  .simp only[Lx.R.ok,Sum.inl.injEq,Prod.mk.injEq] at h;obtain⟨rfl,rfl,-⟩:=h;have hp:Lx.isPart x=true:=by unfold Lx.isPart;rw[hl];rfl
   refine⟨by decide,λ _=>⟨by simp[hp],λ c hc=>⟨Lx.tw_mem c hc,(hq c ((takeWhile_sublist _).subset hc)).2.2⟩⟩⟩
  .simp[Lx.R.ok,Lx.R.bad] at h
 split at h
 .unfold Lx.numberR at h;split at h
  .simp[Lx.R.ok,Lx.R.bad] at h
  split at h
  .simp only[Lx.R.ok,Sum.inl.injEq,Prod.mk.injEq] at h;obtain⟨rfl,-⟩:=h;exact⟨by decide,λ h=>by cases h⟩
  .simp[Lx.R.ok,Lx.R.bad] at h
 split at h
 .exact absurd (by assumption) (hq x (AC ..)).1
 .unfold Lx.markR at h;split at h
  .simp[Lx.R.ok,Lx.R.bad] at h
  .simp only[Lx.R.ok,Sum.inl.injEq,Prod.mk.injEq] at h;obtain⟨rfl,-⟩:=h;exact⟨by decide,λ h=>by cases h⟩
theorem Aw9:∀(N:Nat) (l:B) (i c:Nat) (ts:List Lx.Tok),l.length<N->NoQ l->Lx.lexGo true l i c=.inl ts->∀t∈ts,VR t.kind t.text t.num:=by
 intro N;induction N with
 | zero=>intro l i c ts h;omega
 | succ N ih=>
  intro l i c ts hN hq h;obtain⟨u,a4,rfl,a7,hc,a0⟩:=E6 h;rcases a0 with⟨hd,rfl,rfl⟩ | ⟨x,r,k,t,m,n,hd,ht,rfl,a3⟩
  .intro t ht;simp at ht;subst ht;exact⟨by simp,λ h=>by cases h⟩
  .have a6:NoQ (x :: r):=by rw[<-hd];exact hq.drop _
   have a5:=congrArg List.length hd;simp at a5;have hn:1<=n:=(B4 ht).2.1;intro t2 ht2;rcases mem_cons.1 ht2 with rfl | ht2
   .exact Aw8 a6 ht
   .exact ih _ _ _ a4 (by simp;omega) (hq.drop _) a3 t2 ht2
theorem Ap4{b:B}{p:Px.Pr}(hq:NoQ b)(h:Px.parse b=.inl p):Px.WfP VR p:=by
 unfold Px.parse at h;rcases hl:Lx.lex true b with ts | x
 .rw[hl] at h;simp only at h;have hv:Px.AllV VR ts:=by
   unfold Lx.lex at hl;split at hl
   .cases hl
   .intro t ht;have:=Aw9 (b.length+1) b 0 0 ts (by omega) hq hl t ht;exact⟨λ h1=>⟨by decide,λ _=>this.2 h1⟩,λ h1=>⟨by decide,λ h=>by cases h⟩,λ h1=>absurd h1 this.1⟩
  rcases hp:Px.program ts with⟨q,l'⟩ | x
  .rw[hp] at h;simp at h;subst h;exact (Px.program_sm hv hp).1
  .rw[hp] at h;simp at h
 .rw[hl] at h;simp at h
theorem As3:VN VR:=⟨λ t n h c hc=>((h.2 rfl).2 c hc).2,λ t n h=>h.1 rfl⟩
def Jj(t:B):Prop:=Px.reserved t=false/\t≠[]/\∀c∈t,Lx.isPart c=true
theorem Ah6{t:B}(h:Px.NmOk VR t):Jj t/\NW t:=⟨⟨h.1,(h.2.2 rfl).1,λ c hc=>((h.2.2 rfl).2 c hc).1⟩,λ c hc=>((h.2.2 rfl).2 c hc).2⟩
theorem Ah7{t:B}(h:Jj t):Jj (rho t):=by
 refine⟨by rw[Px.words_rn];exact h.1,?_,?_⟩
 .match t,h with
  | c :: r,h=>rw[rho];split <;> simp
  | [],h=>exact absurd rfl h.2.1
 .match t,h with
  | c :: r,h=>
   rw[rho];split
   .intro d hd;rcases mem_cons.1 hd with rfl | hd
    .decide
    .exact h.2.2 d hd
   .exact h.2.2
  | [],h=>exact absurd rfl h.2.1
theorem Bb2{t:B}(h:VT t):¬Jj t:=by
 rintro⟨h1,h2,h3⟩;obtain⟨T,rfl,-⟩:=h;cases T with
 | int=>exact absurd h1 (by decide)
 | bool=>exact absurd h1 (by decide)
 | text=>exact absurd h1 (by decide)
 | list T=>exact absurd (h3 91 (by simp[Vv.tyT])) (by decide)
 | map k T=>exact absurd (h3 123 (by simp[Vv.tyT])) (by decide)
def unr:B->B
 | []=>[]
 | c :: r=>if c=119 then r else c :: r
theorem Ap5{t:B}(h:NW t):unr (rho t)=t:=by
 match t,h with
 | [],_=>rfl
 | c :: r,h=>
  have:=h c (AC ..);rw[rho];split
  .simp[unr]
  .simp[unr,this]
theorem Ax0{t:B}(h:NW t):unr t=t:=by
 match t,h with
 | [],_=>rfl
 | c :: r,h=>
  have:=h c (AC ..);simp[unr,this]
end
section
namespace Ck
open Lx (B rho)
open Px (Ex St Sl Pr WfE WfEs WfS Cg WfP WfF)
abbrev LsV(ls:List B):Prop:=∀t∈ls,VT t
theorem LsV.snoc{ls:List B}{t:B}(h:LsV ls)(ht:VT t):LsV (ls ++ [t]):=λ x hx=>by
 rcases mem_append.1 hx with hx | hx
 .exact h x hx
 .simp at hx;subst hx;exact ht
mutual
theorem Bb3{sts:List B}{k:Kx}(hh:HOk sts k.heads)(hn:k.number<=k.heads.length):∀(s:St) (env:Env) (ls:List B) (r:St1),Dl sts ls env->NoS s->LsV ls->cS k env ls s=.inl r->LsV r.2.2
 | .mk kind n es body other p,env,ls,r,he,hs,hl,e=>by
  rw[NoS] at hs;obtain⟨hk,h1,h2,h3⟩:=hs;have hq:Iq sts k.heads k.number ls (cEs (k.at env) es):=Gd (c:=k.at env) he hh hn es h1;rw[cS] at e;split at e
  .obtain⟨x,a1,e⟩:=bd e;obtain⟨e1,a2,e⟩:=bd e;cases e;have g:=hq.arg 0 x a1;obtain⟨b1,b2⟩:=Jh (AI rfl) g.vt he a2;show LsV e1.2;rw[b1];exact hl.snoc g.vt
  split at e
  .obtain⟨m,a1,e⟩:=bd e;split at e
   .obtain⟨x,a2,e⟩:=bd e;cases e;exact hl
   .obtain⟨_,a2,e⟩:=bd e;obtain⟨x,a3,e⟩:=bd e;obtain⟨y,a4,e⟩:=bd e;cases e;exact hl
  split at e
  .obtain⟨m,a1,e⟩:=bd e;obtain⟨_,a2,e⟩:=bd e;obtain⟨x,a3,e⟩:=bd e;cases e;exact hl
  split at e
  .obtain⟨x,a1,e⟩:=bd e;obtain⟨a,a2,e⟩:=bd e;obtain⟨b,a3,e⟩:=bd e;cases e;obtain⟨⟨m1,b1⟩,b2,b3⟩:=Fc hh hn body env ls a he h2 a2;have a0:=L4 hh hn body env ls a he h2 hl a2;exact L4 hh hn other env a.2.2 b (by rw[b1];exact he.more m1) h3 a0 a3
  split at e
  .obtain⟨x,a1,e⟩:=bd e;obtain⟨e1,a2,e⟩:=bd e;obtain⟨a,a3,e⟩:=bd e;cases e;obtain⟨b1,b2⟩:=Jh (AJ rfl) VT.int he a2;exact L4 hh hn body e1.1 e1.2 a b2 h2 (by rw[b1];exact hl.snoc VT.int) a3
  .obtain⟨x,a1,e⟩:=bd e;cases e;exact hl
theorem L4{sts:List B}{k:Kx}(hh:HOk sts k.heads)(hn:k.number<=k.heads.length):∀(l:List St) (env:Env) (ls:List B) (r:List CS × Env × List B),Dl sts ls env->J9 l->LsV ls->cSs k env ls l=.inl r->LsV r.2.2
 | [],env,ls,r,he,_,hl,e=>by
  rw[cSs] at e;cases e;exact hl
 | s :: l,env,ls,r,he,hs,hl,e=>by
  rw[J9] at hs;rw[cSs] at e;obtain⟨a,a1,e⟩:=bd e;obtain⟨b,a2,e⟩:=bd e;cases e;obtain⟨-,b2,-⟩:=Wu hh hn s env ls a he hs.1 a1;exact L4 hh hn l a.2.1 a.2.2 b b2 hs.2 (Bb3 hh hn s env ls a he hs.1 hl a1) a2
end
mutual
def OkE:CE->Prop
 | .mk k o n t s y a=>t=[]/\VT y/\OkEs a
def OkEs:List CE->Prop
 | []=>True
 | e :: r=>OkE e/\OkEs r
end
mutual
def OkS:CS->Prop
 | .mk k s f n es b c=>OkEs es/\OkSs b/\OkSs c
def OkSs:List CS->Prop
 | []=>True
 | e :: r=>OkS e/\OkSs r
end
mutual
theorem Ax1{sts:List B}{hs:List Hd}{n:Nat}{ls:List B}:∀{e:CE},ClE sts hs n ls e->T0E e->OkE e
 | .mk k o nn t s y a,h,h0=>by
  rw[ClE] at h;rw[T0E] at h0;rw[OkE];exact⟨h0.1,h.1,P9 h.2.2.2.2.2.2 h0.2⟩
theorem P9{sts:List B}{hs:List Hd}{n:Nat}{ls:List B}:∀{l:List CE},Er sts hs n ls l->G7 l->OkEs l
 | [],_,_=>by rw[OkEs];trivial
 | e :: r,h,h0=>by
  rw[Er] at h;rw[G7] at h0;rw[OkEs];exact⟨Ax1 h.1 h0.1,P9 h.2 h0.2⟩
end
mutual
theorem Ax2{sts:List B}{hs:List Hd}{n:Nat}{ls:List B}:∀{e:CS},ClS sts hs n ls e->T0S e->OkS e
 | .mk k s f nn es b c,h,h0=>by
  rw[ClS] at h;rw[T0S] at h0;rw[OkS];exact⟨P9 h.1 h0.1,Km h.2.2.1 h0.2.1,Km h.2.2.2 h0.2.2⟩
theorem Km{sts:List B}{hs:List Hd}{n:Nat}{ls:List B}:∀{l:List CS},Ft sts hs n ls l->P7 l->OkSs l
 | [],_,_=>by rw[OkSs];trivial
 | e :: r,h,h0=>by
  rw[Ft] at h;rw[P7] at h0;rw[OkSs];exact⟨Ax2 h.1 h0.1,Km h.2 h0.2⟩
end
theorem W5{sts:List B}:∀(l:List Sl) (env:Env) (ls:List B) (r:Env × List B),(∀s∈l,VT s.type)->Dl sts ls env->LsV ls->locs env ls l=.inl r->LsV r.2
 | [],env,ls,r,_,he,hl,h=>by
  rw[locs] at h;cases h;exact hl
 | s :: l,env,ls,r,hv,he,hl,h=>by
  rw[locs] at h;obtain⟨e1,a1,h⟩:=bd h;have ht:=hv s (AC ..);obtain⟨b1,b2⟩:=Jh (AI rfl) ht he a1;exact W5 l e1.1 e1.2 r (λ x hx=>hv x (AH _ hx)) b2 (by rw[b1];exact hl.snoc ht) h
abbrev Uy(s:B × B):Prop:=Jj s.1/\NW s.1/\VT s.2
structure CfOk(f:CF):Prop where
 name:Jj f.name/\NW f.name
 par:∀s∈f.params,Uy s
 res:VT f.result
 loc:LsV f.locals
 body:OkSs f.body
structure OkCP(c:CP):Prop where
 st:∀s∈c.states,Uy s
 fn:∀f∈c.fns,CfOk f
theorem Sq{l:List Sl}(h:∀s∈l,Px.WfSl VR s):∀s∈slots l,Uy s:=by
 intro s hs;obtain⟨x,hx,rfl⟩:=mem_map.1 hs;have:=h x hx;exact⟨(Ah6 this.1).1,(Ah6 this.1).2,.of this.2⟩
theorem L5{sts:List B}{hs:List Hd}(hh:HOk sts hs){env:Env}(he:Dl sts [] env):∀(l:List Px.Fn) (i:Nat) (xs:List CF),i+l.length<=hs.length->(∀f∈l,WfF VR f)->bodies hs env i l=.inl xs->∀x∈xs,CfOk x
 | [],i,xs,_,_,h=>by
  rw[bodies] at h;cases h;exact λ f hf=>by cases hf
 | f :: r,i,xs,hi,hw,h=>by
  rw[bodies] at h;obtain⟨x,a1,h⟩:=bd h;obtain⟨ys,a2,h⟩:=bd h;cases h;simp only[length_cons] at hi;have hf:=hw f (AC ..);have a0:∀s∈f.params,VT s.type:=λ s hs=>.of (hf.2.1 s hs).2
  have hc:=Ba2 hh (i:=i) (by omega) he a0 (G1 hf.2.2.2.1) a1;obtain⟨e,b1,a1⟩:=bd a1;obtain⟨a,b2,a1⟩:=bd a1;cases a1;obtain⟨c1,c2⟩:=P0 f.params env [] e a0 he b1;have a4:=W5 f.params env [] e a0 he (λ t ht=>by cases ht) b1;have a3:=L4 (k:=⟨i,hs,f.result⟩) hh (by show i<=hs.length;omega) f.body e.1 e.2 a c2 (G1 hf.2.2.2.1) a4 b2;have h0:=Ah3 As3 ⟨i,hs,f.result⟩ f.body e.1 e.2 a hf.2.2.2.1 b2;intro g hg;rcases mem_cons.1 hg with rfl | hg
  .exact⟨Ah6 hf.1,Sq hf.2.1,.of hf.2.2.1,a3,Km hc.body h0⟩
  .exact L5 hh he r (i+1) ys (by omega) (λ y hy=>hw y (AH _ hy)) a2 g hg
theorem okCP_of{p:Pr}(hw:WfP VR p){c:CP}(h:check p=.inl c):OkCP c:=by
 have hp:=Aw7 hw;obtain⟨_,a1,h⟩:=bd h;obtain⟨e1,a2,h⟩:=bd h;obtain⟨e2,a3,h⟩:=bd h;obtain⟨fs,a4,h⟩:=bd h;cases h;have h1:Dl (p.states.map (·.type)) [] e1:=Oa p.states [] e1 0 (λ j s hj=>by rw[List.getElem?_map,Nat.zero_add,hj];rfl) hp.st (λ x hx=>by cases hx) a2
 have h2:=Af9 p.fns e1 e2 0 h1 a3;have hh:HOk (p.states.map (·.type)) (p.fns.map hd):=⟨λ h hm=>by obtain⟨f,hf,rfl⟩:=mem_map.1 hm;exact hp.res f hf⟩
 exact⟨Sq hw.2.1,L5 hh h2 p.fns 0 fs (by simp) hw.2.2 a4⟩
end Ck
end
section
open Go.RowKit
def D6(s:ByteArray)(k:Nat):Bool:=match k with
 | 0=>false
 | j+1=>if h:j<s.size then Lx.isPart s[j] else false
theorem Ak9(c:UInt8):Lx.isPart c=(((decide ((97:Int)<=(c.toNat:Int)) && decide ((c.toNat:Int)<=122)) || decide ((c.toNat:Int)=95)) || (decide ((48:Int)<=(c.toNat:Int)) && decide ((c.toNat:Int)<=57))):=by
 have e:∀a b:UInt8,(decide (a<=b))=decide (a.toNat<=b.toNat):=λ a b=>by rw[decide_eq_decide];exact UInt8.le_iff_toNat_le
 unfold Lx.isPart Lx.isLetter Lx.isDigit;rw[e,e,e,e,show (c == 95)=decide (c.toNat=95) by rw[Bool.eq_iff_iff,beq_iff_eq,decide_eq_true_eq,<-UInt8.toNat_inj];rfl];rw[Bool.eq_iff_iff];simp only[Bool.or_eq_true,Bool.and_eq_true,decide_eq_true_eq];show ((97<=c.toNat/\c.toNat<=122)\/c.toNat=95)\/48<=c.toNat/\c.toNat<=57↔_;omega
theorem dig_int(c:UInt8):Lx.isDigit c=(decide ((48:Int)<=(c.toNat:Int)) && decide ((c.toNat:Int)<=57)):=by
 have e:∀a b:UInt8,(decide (a<=b))=decide (a.toNat<=b.toNat):=λ a b=>by rw[decide_eq_decide];exact UInt8.le_iff_toNat_le
 unfold Lx.isDigit;rw[e,e,Bool.eq_iff_iff];simp only[Bool.and_eq_true,decide_eq_true_eq];show 48<=c.toNat/\c.toNat<=57↔_;omega
theorem Ar1(s:ByteArray)(k:Nat):Lx.hdDig (s.data.toList.drop k)=if h:k<s.size then Lx.isDigit s[k] else false:=by
 by_cases h:k<s.size
 .rw[dif_pos h,D7 s k h];rfl
 .rw[dif_neg h,drop_eq_nil_of_le (by rw[Array.length_toList];show s.data.size<=k;have:s.data.size=s.size:=rfl;omega)];rfl
theorem Ar2(s:ByteArray)(k:Nat)(h:k<s.size):Lx.rn (D6 s k) (s.data.toList.drop k)=(if (Lx.isVip s[k] && !D6 s k && (if h:k+1<s.size then Lx.isDigit s[k+1] else false))=true then [119,s[k]] else [s[k]]) ++ Lx.rn (D6 s (k+1)) (s.data.toList.drop (k+1)):=by
 have ha:D6 s (k+1)=Lx.isPart s[k]:=by simp only[D6];rw[dif_pos h]
 rw[D7 s k h,Lx.rn,Ar1,ha];split
 .split <;> rfl
 .split <;> rfl
theorem Ar3(c:UInt8):Lx.isVip c=(((decide ((c.toNat:Int)=118)) || decide ((c.toNat:Int)=105)) || decide ((c.toNat:Int)=112)):=by
 unfold Lx.isVip;rw[Bool.eq_iff_iff];simp only[Bool.or_eq_true,beq_iff_eq,decide_eq_true_eq,<-UInt8.toNat_inj];show (c.toNat=118\/c.toNat=105)\/c.toNat=112↔_;omega
def Mm(B:Nat)(v:Value)(l:AQ)(w:World):Prop:=w.ownsRow B 5 1 v l.length (Lib.byteCells l)
theorem Zb{B:Nat}{l:AQ}(h:Mm B v l w):∃ao cap,v=.slice ao l.length cap/\(convert 78 9 (.slice ao l.length cap)).run prog w=.ok (.string ⟨l.toArray⟩) w:=by
 rcases h.2 with⟨hv,h0⟩ | ⟨g,cap,cur,hv,hg,hh,_,_,_,ht⟩
 .obtain rfl:l=[]:=eq_nil_of_length_eq_zero h0;refine⟨none,0,hv,?_⟩;rw[run_convert_bytes_string w 78 9 5 none _ 0 underlying78 underlying5 underlying9];rfl
 .refine⟨some ⟨g,0,none⟩,cap,hv,?_⟩;refine run_convert_bytes_back (P:=prog) w 78 9 5 ⟨g,0,none⟩ cap l underlying78 underlying5 underlying9 ?_;intro j hj;have e:(⟨g,0,none⟩:Addr).add j=⟨g,j,none⟩:=by unfold Addr.add;split <;> simp_all
  rw[e,Lib.cell_of_heap hh];have hk:(Lib.byteCells l)[j]?=some (.int .u8 (l[j].toNat:Int)):=by simp[Lib.byteCells,List.getElem?_eq_getElem hj]
  rw[<-ht,List.getElem?_take] at hk;split at hk
  .simpa using hk
  .simp at hk
theorem Zc(l:AQ)(a b:UInt8):Lib.byteCells (l ++ [a,b])=Lib.byteCells l ++ [.int .u8 (a.toNat:Int),.int .u8 (b.toNat:Int)]:=by simp[Lib.byteCells]
theorem Td(s:ByteArray)(w:World)(hs:s.size<=1099511627776):AA 16 #[.string s] w λ e w'=>e=.returned (.string ⟨(Lx.rn false s.data.toList).toArray⟩)/\Below w w w':=by
 obtain⟨i0,ag,hz⟩:=Option.map_eq_some_iff.1 (show (prog.info? 5).map (λ i=>(i.zero,i.size,i.bytes))=some (some (.int .u8 0),1,1) by kernel_rfl);simp only[Prod.mk.injEq] at hz;obtain⟨aa,ab,ad⟩:=hz;have ak:Mm w sZ [] w:=⟨rfl,AI ⟨rfl,rfl⟩⟩;have aj:Below w w w:=AF _ _;obtain⟨res,a0⟩:∃res,Aside (res=Lx.rn false s.data.toList):=⟨_,rfl⟩;rw[<-a0.out];have a4:Aside (res=[] ++ Lx.rn (D6 s 0) (s.data.toList.drop 0)):=by show _=_;rw[a0.out];simp[D6]
 clear a0;go_enter func16,ntmps16;go_wp2_with fail
 go_loopg [3,4] (s.size) (λ g v i wr=>∃(k:Nat) (acc:AQ),k<=s.size/\g=s.size - k/\i=iv k/\Mm w v acc wr/\Below w w wr/\acc.length<=2*k/\Aside (res=acc ++ Lx.rn (D6 s k) (s.data.toList.drop k)))
 case atStart=>exact⟨0,[],AO _,rfl,rfl,ak,aj,by simp,a4⟩
 case round=>
  obtain⟨k,acc,hk,rfl,rfl,hr,hb,al,a0⟩:=hrel;clear ak aj a4;obtain⟨ao,cap,rfl,a3⟩:=Zb hr;by_cases hlt:k<s.size
  .have ae:(k:Int)<(s.size:Int):=by omega
   have ah:=Ar2 s k hlt;rw[ah] at a0;clear ah;obtain⟨a,ha⟩:∃a,Aside (a=D6 s k):=⟨_,rfl⟩;rw[<-ha.out] at a0
   go_upto_region 6 with fail
   go_cut [3,4,5,6] from 3 to 53 (λ b i c v6 wc=>b=.slice ao acc.length cap/\i=iv k/\c=.int .u8 s[k].toNat/\v6=.bool a/\wc=wr)
   case first=>
    by_cases h0:k=0
    .subst h0;have aq:a=false:=ha.out;subst aq;clear a0 a3 hr al ha;go_wp2_with fail
     go_meet
     exact⟨rfl,rfl,rfl,rfl,rfl⟩
    .obtain⟨j,rfl⟩:∃j,k=j+1:=⟨k - 1,by omega⟩;have hj:j<s.size:=by omega
     have az:(j:Int)<(s.size:Int):=by omega
     have e1:(((j+1:Nat):Int)) - 1=(j:Int):=by omega
     have ar:Aside (a=Lx.isPart s[j]):=by
      show _=_;rw[ha.out];simp only[D6];rw[dif_pos hj]
     have am:(0:Int)<((j+1:Nat):Int):=by omega
     clear a0 a3 hr al ha h0;go_wp2_with fail
     all_goals go_meet
     all_goals refine⟨rfl,rfl,rfl,?_,rfl⟩
     all_goals
      rw[ar.out,Ak9];congr 1;rw[Bool.eq_iff_iff];simp only[Bool.or_eq_true,Bool.and_eq_true,decide_eq_true_eq,beq_iff_eq,true_iff];omega
   case rest=>
    obtain⟨rfl,rfl,rfl,rfl,rfl⟩:=hcut;clear a3 ha;unfold Mm at hr;have a7:=Ar3 s[k];by_cases hcond:(Lx.isVip s[k] && !a && (if h:k+1<s.size then Lx.isDigit s[k+1] else false))=true
    .rw[if_pos hcond] at a0;have a9:Aside (res=acc ++ ([119,s[k]] ++ Lx.rn (D6 s (k+1)) (s.data.toList.drop (k+1)))):=a0;simp only[Bool.and_eq_true,Bool.not_eq_true'] at hcond;obtain⟨⟨hv,rfl⟩,hd⟩:=hcond;split at hd
     rotate_left
     .cases hd
     rename_i a6;rw[dig_int] at hd;simp only[Bool.and_eq_true,decide_eq_true_eq] at hd;obtain⟨ax,av⟩:=hd;rw[a7] at hv;simp only[Bool.or_eq_true,decide_eq_true_eq] at hv;have ay:(k:Int)+1<(s.size:Int):=by omega
     clear a0 a7;have af:(((s[k].toNat:Int) == 118)=true)\/(((s[k].toNat:Int) == 118)=false/\((s[k].toNat:Int) == 105)=true)\/(((s[k].toNat:Int) == 118)=false/\((s[k].toNat:Int) == 105)=false/\((s[k].toNat:Int) == 112)=true):=by
      rcases hv with (h | h) | h
      .exact AI (by simp[h])
      .exact AJ (AI ⟨by simp[h],by simp[h]⟩)
      .exact AJ (AJ ⟨by simp[h],by simp[h],by simp[h]⟩)
     clear hv;rcases af with e1 | ⟨e1,e2⟩ | ⟨e1,e2,e3⟩
     all_goals
      go_wp2_with (at_builtin;refine wpList_append_own _ rfl _ _ 78 rfl w 5 i0 (.int .u8 0) 1 1 underlying78 ag aa ab ad rfl (by decide) _ _ _ rfl (hr.alloc _) ⟨wc,0,none⟩ 2 2 [.int .u8 119,.int .u8 s[k].toNat] rfl rfl ?c1 ?c2 ?c3 ?c4 ?c5 ?_)
      try case c1=>
       intro j u hj
       match j,hj with
       | 0,hj=>simp at hj;subst hj;simp[Addr.add]
       | 1,hj=>simp at hj;subst hj;simp[Addr.add]
      case c2=>intro u hu;simp at hu;rcases hu with rfl | rfl <;> rfl
      case c3=>first | (unfold maxLen;simp;omega) | (unfold maxLen;omega) | (simp;omega) | omega
      case c4=>first | (simp;omega) | omega
      case c5=>have:=hb.size;first | (simp;omega) | omega
      intro v' w2 hr2 hg2 _;go_wp2_with fail;go_roundg (s.size - (k+1))
      case measure=>omega
      case rel=>
       refine⟨k+1,acc ++ [119,s[k]],by omega,rfl,by go_num,?_,(hb.alloc hb.size _).grown hg2 (by have:=hb.size;simp;omega) (λ x hx=>(hr.lt x hx).1),by simp;omega,by show _=_;rw[a9.out];simp⟩;unfold Mm;rw[Zc];simpa using hr2
    .rw[if_neg hcond] at a0;have a9:Aside (res=acc ++ ([s[k]] ++ Lx.rn (D6 s (k+1)) (s.data.toList.drop (k+1)))):=a0;clear a0;have af:(((s[k].toNat:Int) == 118)=false/\((s[k].toNat:Int) == 105)=false/\((s[k].toNat:Int) == 112)=false) \/
       ((((s[k].toNat:Int) == 118)=true\/(((s[k].toNat:Int) == 118)=false/\((s[k].toNat:Int) == 105)=true)\/(((s[k].toNat:Int) == 118)=false/\((s[k].toNat:Int) == 105)=false/\((s[k].toNat:Int) == 112)=true)) /\
        (a=true\/(a=false/\(¬(k:Int)+1<(s.size:Int)\/((k:Int)+1<(s.size:Int)/\∃a6:k+1<s.size,(¬(48:Int)<=(s[k+1].toNat:Int)\/((48:Int)<=(s[k+1].toNat:Int)/\¬(s[k+1].toNat:Int)<=57))))))):=by
      by_cases hv:Lx.isVip s[k]=true
      .refine AJ ⟨?_,?_⟩
       .rw[a7] at hv;simp only[Bool.or_eq_true,decide_eq_true_eq] at hv;rcases hv with (h | h) | h
        .exact AI (by simp[h])
        .exact AJ (AI ⟨by simp[h],by simp[h]⟩)
        .exact AJ (AJ ⟨by simp[h],by simp[h],by simp[h]⟩)
       .cases a
        .refine AJ ⟨rfl,?_⟩;by_cases a6:k+1<s.size
         .rw[dif_pos a6,hv,dig_int] at hcond;refine AJ ⟨by omega,a6,?_⟩;simp only[Bool.not_false,Bool.and_true,Bool.true_and,Bool.and_eq_true,decide_eq_true_eq] at hcond;omega
         .exact AI (by omega)
        .exact AI rfl
      .refine AI ?_;rw[a7] at hv;simp only[Bool.or_eq_true,decide_eq_true_eq,not_or] at hv;exact⟨by rw[beq_eq_false_iff_ne];exact hv.1.1,by rw[beq_eq_false_iff_ne];exact hv.1.2,by rw[beq_eq_false_iff_ne];exact hv.2⟩
     clear hcond a7;rcases af with⟨e1,e2,e3⟩ | ⟨hv,hn⟩
     .go_wp2_with (at_builtin;refine wpList_append_own _ rfl _ _ 78 rfl w 5 i0 (.int .u8 0) 1 1 underlying78 ag aa ab ad rfl (by decide) _ _ _ rfl (hr.alloc _) ⟨wc,0,none⟩ 1 1 [.int .u8 s[k].toNat] rfl rfl ?c1 ?c2 ?c3 ?c4 ?c5 ?_)
      try case c1=>
       intro j u hj
       match j,hj with
       | 0,hj=>simp at hj;subst hj;simp[Addr.add]
      case c2=>first | rfl | (intro u hu;simp at hu;subst hu;rfl)
      case c3=>first | (unfold maxLen;simp;omega) | (unfold maxLen;omega) | (simp;omega) | omega
      case c4=>first | (simp;omega) | omega
      case c5=>have:=hb.size;first | (simp;omega) | omega
      intro v' w2 hr2 hg2 _;go_wp2_with fail;go_roundg (s.size - (k+1))
      case measure=>omega
      case rel=>
       refine⟨k+1,acc ++ [s[k]],by omega,rfl,by go_num,?_,(hb.alloc hb.size _).grown hg2 (by have:=hb.size;simp;omega) (λ x hx=>(hr.lt x hx).1),by simp;omega,by show _=_;rw[a9.out];simp⟩;unfold Mm;rw[Hl];simpa using hr2
     .rcases hv with e1 | ⟨e1,e2⟩ | ⟨e1,e2,e3⟩ <;> rcases hn with rfl | ⟨rfl,hn | ⟨hn,a6,au | ⟨au,aw⟩⟩⟩
      all_goals
       go_wp2_with (at_builtin;refine wpList_append_own _ rfl _ _ 78 rfl w 5 i0 (.int .u8 0) 1 1 underlying78 ag aa ab ad rfl (by decide) _ _ _ rfl (hr.alloc _) ⟨wc,0,none⟩ 1 1 [.int .u8 s[k].toNat] rfl rfl ?c1 ?c2 ?c3 ?c4 ?c5 ?_)
       try case c1=>
        intro j u hj
        match j,hj with
        | 0,hj=>simp at hj;subst hj;simp[Addr.add]
       case c2=>first | rfl | (intro u hu;simp at hu;subst hu;rfl)
       case c3=>first | (unfold maxLen;simp;omega) | (unfold maxLen;omega) | (simp;omega) | omega
       case c4=>first | (simp;omega) | omega
       case c5=>have:=hb.size;first | (simp;omega) | omega
       intro v' w2 hr2 hg2 _;go_wp2_with fail;go_roundg (s.size - (k+1))
       case measure=>omega
       case rel=>
        refine⟨k+1,acc ++ [s[k]],by omega,rfl,by go_num,?_,(hb.alloc hb.size _).grown hg2 (by have:=hb.size;simp;omega) (λ x hx=>(hr.lt x hx).1),by simp;omega,by show _=_;rw[a9.out];simp⟩;unfold Mm;rw[Hl];simpa using hr2
  .have ae:¬(k:Int)<(s.size:Int):=by omega
   have ai:k=s.size:=by omega
   have a5:acc=res:=by
    rw[a0.out,ai,drop_eq_nil_of_le (by rw[Array.length_toList];exact Nat.le_refl s.data.size)];simp[Lx.rn]
   rw[a5] at a3;have a8:acc.length=res.length:=by rw[a5]
   rw[a8];clear a0 hr a5 a8 ai;go_wp2_with fail;go_ret;exact⟨rfl,hb⟩
end
end Go.Proofs.YtpckmjfabiallaaGreatDoor
