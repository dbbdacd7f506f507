/- Texts of ours, joined. -/
import Derived.Test.YtpckmjfabiallaaGreatDoorG07
import Derived.Test.YtpckmjfabiallaaGreatDoorG08
import Derived.Test.YtpckmjfabiallaaGreatDoorG06
set_option linter.unusedVariables false
set_option linter.unusedSimpArgs false
set_option maxRecDepth 100000
set_option maxHeartbeats 16000000
namespace Go.Proofs.YtpckmjfabiallaaGreatDoor
variable{cs:List Value}{d i m:Nat}{v:Value}{w w':World}
open List
open Tryz
section
open Px (TS TSim Ex exT exTs WfE WfEs lowE lv opL opX mk4 wd dg within Ap)
open Lx (B Tok)
theorem R7{a b c d:List Tok}(h:TSim a b)(h2:TSim c d):TSim (a ++ c) (b ++ d):=by
 induction h with
 | nil=>exact h2
 | cons h _ ih=>exact .cons h ih
def Lxs(s:B)(ts:List Tok)(A:B->Prop):Prop:=∀z i c,A z->c+ts.length<=4096->∃us,TSim ts us/\Lx.lexGo true (s ++ z) i c=Lx.Out.pre us (Lx.lexGo true z (i+s.length) (c+ts.length))
def Any:B->Prop:=λ _=>True
theorem Lxs.nil:Lxs [] [] Any:=λ z i c _ _=>⟨[],.nil,by rw[Lx.pre_nil];rfl⟩
theorem Lxs.app{s1 s2:B}{t1 t2:List Tok}{A1 A2:B->Prop}(h1:Lxs s1 t1 A1)(h2:Lxs s2 t2 A2)(hA:∀z,A2 z->A1 (s2 ++ z)):Lxs (s1 ++ s2) (t1 ++ t2) A2:=by
 intro z i c hz hc;simp only[length_append] at hc;obtain⟨us,hu,e1⟩:=h1 (s2 ++ z) i c (hA z hz) (by omega);obtain⟨vs,hv,e2⟩:=h2 z (i+s1.length) (c+t1.length) hz (by omega);refine⟨us ++ vs,R7 hu hv,?_⟩;rw[append_assoc,e1,e2,Lx.pre_pre];simp[Nat.add_assoc]
theorem Lxs.weak{s:B}{t:List Tok}{A A':B->Prop}(h:Lxs s t A)(hA:∀z,A' z->A z):Lxs s t A':=λ z i c hz hc=>h z i c (hA z hz) hc
theorem Ac7{c:UInt8}(hc:Lx.isBlank c=true)(z:B)(i n:Nat):Lx.lexGo true (c :: z) i n=Lx.lexGo true z (i+1) n:=by
 have hs:Lx.skipF false (c :: z)=1+Lx.skipF false z:=by simp[Lx.skipF,hc]
 have hd:(c :: z).drop (Lx.skipF false (c :: z))=z.drop (Lx.skipF false z):=by rw[hs,Nat.add_comm,drop_succ_cons]
 rcases hz:z.drop (Lx.skipF false z) with _ | ⟨x,r⟩
 .rw[Lx.lexGo_end (by rw[hd];exact hz),Lx.lexGo_end hz,hs,<-Nat.add_assoc]
 .rcases ht:Lx.tokR true (x :: r) with⟨k,t,m,j⟩ | ⟨o,e⟩
  .have hj:=(B9 ht).2.1;rw[Lx.lexGo_ok (by rw[hd];exact hz) ht hj,Lx.lexGo_ok hz ht hj,hs,<-Nat.add_assoc];rw[show 1+Lx.skipF false z+j=(Lx.skipF false z+j)+1 by omega,drop_succ_cons]
  .rw[Lx.lexGo_bad (by rw[hd];exact hz) ht,Lx.lexGo_bad hz ht,hs,<-Nat.add_assoc]
theorem A7{c:UInt8}(hc:Lx.isBlank c=true):Lxs [c] [] Any:=λ z i n _ _=>⟨[],.nil,by rw[Lx.pre_nil];exact Ac7 hc z i n⟩
theorem H8:∀{l:B},(∀c∈l,Lx.isBlank c=true)->Lxs l [] Any
 | [],_=>Lxs.nil
 | c :: r,h=>(A7 (h c (by simp))).app (H8 (l:=r) (λ x hx=>h x (by simp[hx]))) (λ _ _=>trivial)
theorem P1{s:B}{k:Nat}{t:B}{A:B->Prop}(hh:∃y r,s=y :: r/\Lx.isBlank y=false/\y≠35)(hr:∀z,A z->Lx.tokR true (s ++ z)=Lx.R.ok k t m s.length):Lxs s [⟨k,t,m,0⟩] A:=by
 intro z i c hz hc;obtain⟨y,r,rfl,h1,h2⟩:=hh;have ht:=hr z hz;have:=Ao6 (dot:=true) (g:=[]) (z:=z) (i:=i) (c:=c) (n:=0) (λ Y=>by simp) ⟨h1,h2⟩ ht;simp only[nil_append,length_nil,Nat.add_zero] at this;simp only[length_cons,length_nil] at hc;refine⟨[⟨k,t,m,i⟩],.cons ⟨rfl,rfl,rfl⟩ .nil,?_⟩;rw[this,if_pos (by omega)];rfl
theorem Cz{k:Nat}{t:B}(h:Wf true k t m):Lxs (Et k t) [⟨k,t,m,0⟩] Br:=by
 obtain⟨y,r,e,h1,h2⟩:=h.head;exact P1 ⟨y,r,e,h1,h2⟩ h.reads
def m1:B:=[40,41,123,125,91,93,58,59,44,43,45,42,47,37]
theorem Av4{x:UInt8}(h:x∈m1)(z:B):Lx.tokR true (x :: z)=Lx.R.ok 4 [x] 0 1:=by
 simp only[m1,mem_cons,not_mem_nil,or_false] at h;rcases h with rfl | rfl | rfl | rfl | rfl | rfl | rfl | rfl | rfl | rfl | rfl | rfl | rfl | rfl
 all_goals
  have h2:∀a:UInt8,Lx.two (a :: z)=(match z with | b :: _=>(b == 61 && (a == 61 || a == 33 || a == 60 || a == 62)) || (a == 38 && b == 38) || (a == 124 && b == 124) | []=>false):=λ a=>by rcases z with _ | ⟨c,z⟩ <;> rfl
  rcases z with _ | ⟨c,z⟩
  .decide
  .simp[Lx.tokR,Lx.isLetter,Lx.isDigit,Lx.markR,Lx.markN,Lx.two,Lx.one,Lx.ones]
theorem lxs_m{x:UInt8}(h:x∈m1):Lxs [x] [mk4 [x]] Any:=by
 refine P1 ⟨x,[],rfl,?_,?_⟩ (λ z _=>Av4 h z)
 .simp only[m1,mem_cons,not_mem_nil,or_false] at h;rcases h with rfl | rfl | rfl | rfl | rfl | rfl | rfl | rfl | rfl | rfl | rfl | rfl | rfl | rfl <;> decide
 .simp only[m1,mem_cons,not_mem_nil,or_false] at h;rcases h with rfl | rfl | rfl | rfl | rfl | rfl | rfl | rfl | rfl | rfl | rfl | rfl | rfl | rfl <;> decide
theorem Az9{x:UInt8}(h:x∈m1):Sep x:=by
 simp only[m1,mem_cons,not_mem_nil,or_false] at h;unfold Sep;rcases h with rfl | rfl | rfl | rfl | rfl | rfl | rfl | rfl | rfl | rfl | rfl | rfl | rfl | rfl <;> decide
theorem L0{x:UInt8}(h:Sep x)(z:B):Br (x :: z):=λ c hc=>by simp at hc;rw[<-hc];exact h
theorem Fs{x:UInt8}(h:x∈m1)(z:B):Br (x :: z):=L0 (Az9 h) z
theorem I2{x:UInt8}(h:Lx.isBlank x=true)(z:B):Br (x :: z):=L0 (Yd (AI h)) z
def Ba0(z:B):Prop:=∀c,z.head?=some c->c≠61
theorem Ao7:Lxs [33] [mk4 [33]] Ba0:=by
 refine P1 ⟨33,[],rfl,by decide,by decide⟩ (λ z hz=>?_);rcases z with _ | ⟨c,z⟩
 .decide
 .have hc:c≠61:=hz c rfl;simp[Lx.tokR,Lx.isLetter,Lx.isDigit,Lx.markR,Lx.markN,Lx.two,Lx.one,Lx.ones,hc]
/- Numbers. -/
theorem Un(a:B)(c:UInt8):Lx.value (a ++ [c])=Lx.value a*10+(c.toNat - 48):=by simp[Lx.value,foldl_append]
theorem R8(h:d<10):(UInt8.ofNat (48+d)).toNat=48+d/\Lx.isDigit (UInt8.ofNat (48+d))=true:=by
 rcases (show d=0\/d=1\/d=2\/d=3\/d=4\/d=5\/d=6\/d=7\/d=8\/d=9 by omega) with rfl | rfl | rfl | rfl | rfl | rfl | rfl | rfl | rfl | rfl <;> decide
theorem R9:∀(f n:Nat),n<f->Px.dgF f n≠[]/\(∀c∈Px.dgF f n,Lx.isDigit c=true)/\Lx.value (Px.dgF f n)=n/\(0<n->(Px.dgF f n).head?≠some 48)/\(n=0->(Px.dgF f n).length=1)
 | 0,n,h=>by omega
 | f+1,n,h=>by
  simp only[Px.dgF];by_cases hn:n<10
  .rw[if_pos hn];have hd:=R8 hn;refine⟨by simp,λ c hc=>by rw[mem_singleton.1 hc];exact hd.2,?_,λ h0 e=>?_,λ _=>rfl⟩
   .simp only[Lx.value,foldl_cons,foldl_nil];rw[hd.1];omega
   .simp only[List.head?_cons,Option.some.injEq] at e;have:=hd.1;rw[e] at this;have a0:(48:UInt8).toNat=48:=rfl;omega
  .rw[if_neg hn];obtain⟨h1,h2,h3,h4,h5⟩:=R9 f (n / 10) (by omega);have hd:=R8 (d:=n % 10) (by omega);refine⟨by simp,λ c hc=>?_,?_,λ h0 e=>?_,λ h0=>by omega⟩
   .simp only[mem_append,mem_singleton] at hc;rcases hc with hc | rfl
    .exact h2 c hc
    .exact hd.2
   .rw[Un,h3,hd.1];omega
   .rcases hx:Px.dgF f (n / 10) with _ | ⟨a,r⟩
    .exact h1 hx
    .rw[hx] at e h4;simp at e;exact h4 (by omega) (by simp[e])
theorem P2{c:UInt8}(h:Lx.isDigit c=true):Lx.isLetter c=false/\Lx.isBlank c=false/\c≠35:=by
 simp only[Lx.isDigit,Bool.and_eq_true,decide_eq_true_eq,UInt8.le_iff_toNat_le] at h;have h1:(48:UInt8).toNat=48:=rfl;have h2:(57:UInt8).toNat=57:=rfl;refine⟨?_,?_,?_⟩
 .simp only[Lx.isLetter,Bool.or_eq_false_iff,Bool.and_eq_false_iff,decide_eq_false_iff_not,UInt8.le_iff_toNat_le,beq_eq_false_iff_ne];have h3:(97:UInt8).toNat=97:=rfl;refine⟨AI (by omega),λ e=>by rw[e] at h;revert h;decide⟩
 .simp only[Lx.isBlank,Bool.or_eq_false_iff,beq_eq_false_iff_ne];refine⟨⟨λ e=>?_,λ e=>?_⟩,λ e=>?_⟩ <;> (rw[e] at h;revert h;decide)
 .intro e;rw[e] at h;revert h;decide
theorem Ac8{p:UInt8->Bool}:∀{a z:B},(∀c∈a,p c=true)->(∀c,z.head?=some c->p c=false)->(a ++ z).takeWhile p=a
 | [],z,_,h=>by
  rcases z with _ | ⟨c,z⟩
  .rfl
  .simp[h c rfl]
 | c :: r,z,h1,h2=>by
  simp only[cons_append,takeWhile_cons,h1 c (by simp),if_true];rw[Ac8 (λ x hx=>h1 x (by simp[hx])) h2]
theorem Ac9{n:Nat}(h:n<=9223372036854775807):Wf true 2 (dg n) n:=by
 obtain⟨h1,h2,h3,h4,h5⟩:=R9 (n+1) n (by omega);have hw:Et 2 (dg n)=dg n:=rfl;rcases hd:dg n with _ | ⟨y,r⟩
 .exact absurd hd h1
 .have hy:Lx.isDigit y=true:=h2 y (by show y∈dg n;rw[hd];simp);have a3:=P2 hy;refine⟨⟨y,r,rfl,a3.2.1,a3.2.2⟩,λ z hz=>?_⟩;have a4:(y :: r ++ z).takeWhile Lx.isDigit=y :: r:=Ac8 (λ c hc=>h2 c (by show c∈dg n;rw[hd];exact hc)) (λ c hc=>(hz c hc).2.1);show Lx.tokR true (y :: r ++ z)=Lx.R.ok 2 (y :: r) n (y :: r).length;simp only[cons_append] at a4 ⊢;rw[Lx.tokR,if_neg (by rw[a3.1];simp),if_pos hy,Lx.numberR,a4];have hv:Lx.value (y :: r)=n:=by rw[<-hd];exact h3
  have a0:¬((y :: r).head?=some 48/\1<(y :: r).length):=by
   intro hh;rw[<-hd] at hh;by_cases h0:n=0
   .have:=h5 h0;have h6:(dg n).length=1:=this;omega
   .exact h4 (by omega) hh.1
  rw[if_neg a0,hv,if_pos h]
def VW(k:Nat)(t:B)(m:Nat):Prop:=Wf true k t m
theorem Ad0{x:B}{n:Nat}(h:VW 2 x n):n<=9223372036854775807:=by
 have h1:=h.reads [] (λ c hc=>by simp at hc);obtain⟨y,r,e,hb,hh⟩:=h.head;have hw:Et 2 x=x:=rfl;rw[hw] at e h1;rw[append_nil,e] at h1;simp only[Lx.tokR] at h1;split at h1
 .unfold Lx.nameR at h1;split at h1 <;> simp[Lx.R.ok,Lx.R.bad] at h1
 split at h1
 .unfold Lx.numberR at h1;split at h1
  .simp[Lx.R.ok,Lx.R.bad] at h1
  split at h1
  .rename_i hv;simp only[Lx.R.ok,Sum.inl.injEq,Prod.mk.injEq] at h1;rw[<-h1.2.2.1];exact hv
  .simp[Lx.R.ok,Lx.R.bad] at h1
 split at h1
 .have:=Bm r.length r 1 [] 2 (y :: r) n _ (AD _) h1;omega
 .unfold Lx.markR at h1;split at h1 <;> simp[Lx.R.ok,Lx.R.bad] at h1
/- The text of an expression. -/
def withinS(b:Bool)(s:B):B:=if b then 40 :: (s ++ [41]) else s
def commasS:List B->B
 | []=>[]
 | [a]=>a
 | a :: b :: r=>a ++ 44 :: 32 :: commasS (b :: r)
def Fb(k o n:Nat)(t:B)(args:List Ex)(xs:List B):B:=
 if k=1 then dg n else if k=2 then (if n=1 then [116,114,117,101] else [102,97,108,115,101]) else if k=3 then Fl t else if k=6 then t
 else if k=7 then t ++ 40 :: (commasS xs ++ [41])
 else if k=12 then withinS (lowE 7 (args.getD 0 default)) (xs.getD 0 []) ++ 91 :: (xs.getD 1 [] ++ [93])
 else if k=13 then 45 :: withinS (lowE 6 (args.getD 0 default)) (xs.getD 0 [])
 else if k=14 then 33 :: withinS (lowE 6 (args.getD 0 default)) (xs.getD 0 [])
 else withinS (lowE (lv o) (args.getD 0 default)) (xs.getD 0 []) ++ 32 :: (opX o ++ 32 :: withinS (lowE (opL o+1) (args.getD 1 default)) (xs.getD 1 []))
mutual
def exS:Ex->B
 | .mk k o n t args _=>Fb k o n t args (Jr args)
def Jr:List Ex->List B
 | []=>[]
 | e :: r=>exS e :: Jr r
end
theorem L1:∀l,Jr l=l.map exS
 | []=>by simp[Jr]
 | e :: r=>by simp[Jr,L1 r]
theorem Eg{b:Bool}{s:B}{ts:List Tok}(h:Lxs s ts Br):Lxs (withinS b s) (within b ts) Br:=by
 cases b
 .exact h
 .exact ((lxs_m (x:=40) (by decide)).app (h.app ((lxs_m (x:=41) (by decide)).weak (λ _ _=>trivial):Lxs [41] [mk4 [41]] Br) (λ z _=>Fs (by decide) z)) (λ _ _=>trivial))
theorem Sa{b:Bool}{s z:B}(h:∃c r,s=c :: r/\c≠61):Ba0 (withinS b s ++ z):=by
 obtain⟨c,r,rfl,hc⟩:=h;cases b
 .intro x hx;simp[withinS] at hx;rw[<-hx];exact hc
 .intro x hx;simp[withinS] at hx;rw[<-hx];decide
theorem Kd{b:Bool}{s:B}(h:∃c r,s=c :: r/\c≠61):∃c r,withinS b s=c :: r/\c≠61:=by
 cases b
 .exact h
 .exact⟨40,s ++ [41],rfl,by decide⟩
theorem L2:∀{l:List Ex},(∀e∈l,Lxs (exS e) (exT e) Br)->Lxs (commasS (l.map exS)) (Ap (l.map exT)) Br
 | [],_=>Lxs.nil.weak (λ _ _=>trivial)
 | [a],h=>h a (by simp)
 | a :: b :: r,h=>by
  have ih:=L2 (l:=b :: r) (λ e he=>h e (by simp at he ⊢;exact AJ he));simp only[map_cons] at ih ⊢;rw[commasS,Ap];have h2:Lxs (44 :: 32 :: commasS (exS b :: r.map exS)) (mk4 [44] :: Ap (exT b :: r.map exT)) Br:=(lxs_m (x:=44) (by decide)).app ((A7 (c:=32) (by decide)).app ih (λ _ _=>trivial)) (λ _ _=>trivial);exact (h a (by simp)).app h2 (λ z _=>Fs (by decide) _)
theorem Bq{x:UInt8}{r:B}{k:Nat}(h:Lx.tokR true (x :: r)=Lx.R.ok k (x :: r) 0 (r.length+1))(hb:Lx.isBlank x=false/\x≠35):Wf true k (x :: r) 0:=Ac6 h hb
theorem Ba1{o:Nat}(h1:1<=o)(h2:o<=13):Wf true 4 (opX o) 0:=by
 rcases Px.op_cases h1 h2 with rfl | rfl | rfl | rfl | rfl | rfl | rfl | rfl | rfl | rfl | rfl | rfl | rfl
 .exact Bq (x:=124) (r:=[124]) rfl ⟨by decide,by decide⟩
 .exact Bq (x:=38) (r:=[38]) rfl ⟨by decide,by decide⟩
 .exact Bq (x:=61) (r:=[61]) rfl ⟨by decide,by decide⟩
 .exact Bq (x:=33) (r:=[61]) rfl ⟨by decide,by decide⟩
 .exact Bq (x:=60) (r:=[]) rfl ⟨by decide,by decide⟩
 .exact Bq (x:=60) (r:=[61]) rfl ⟨by decide,by decide⟩
 .exact Bq (x:=62) (r:=[]) rfl ⟨by decide,by decide⟩
 .exact Bq (x:=62) (r:=[61]) rfl ⟨by decide,by decide⟩
 .exact Bq (x:=43) (r:=[]) rfl ⟨by decide,by decide⟩
 .exact Bq (x:=45) (r:=[]) rfl ⟨by decide,by decide⟩
 .exact Bq (x:=42) (r:=[]) rfl ⟨by decide,by decide⟩
 .exact Bq (x:=47) (r:=[]) rfl ⟨by decide,by decide⟩
 .exact Bq (x:=37) (r:=[]) rfl ⟨by decide,by decide⟩
theorem G7{k:Nat}{t:B}(hk:k≠4)(h:Wf true k t m):∃c r,Et k t=c :: r/\c≠61:=by
 obtain⟨y,r,e,_,_⟩:=h.head;refine⟨y,r,e,λ hy=>?_⟩;have h1:=h.reads [] (λ c hc=>by simp at hc);rw[append_nil,e,hy] at h1;simp only[Lx.tokR] at h1;rw[if_neg (by decide),if_neg (by decide),if_neg (by decide)] at h1;unfold Lx.markR at h1;split at h1
 .simp[Lx.R.ok,Lx.R.bad] at h1
 .simp only[Lx.R.ok,Sum.inl.injEq,Prod.mk.injEq] at h1;exact hk h1.1.symm
theorem Av5(o n:Nat)(t:B)(a b:Ex)(p:Nat):exS (.mk 12 o n t [a,b] p)=withinS (lowE 7 a) (exS a) ++ 91 :: (exS b ++ [93]):=by simp[exS,Fb,Jr]
theorem Ao8(o n:Nat)(t:B)(a:Ex)(p:Nat):exS (.mk 13 o n t [a] p)=45 :: withinS (lowE 6 a) (exS a):=by simp[exS,Fb,Jr]
theorem Ao9(o n:Nat)(t:B)(a:Ex)(p:Nat):exS (.mk 14 o n t [a] p)=33 :: withinS (lowE 6 a) (exS a):=by simp[exS,Fb,Jr]
theorem Ap0(o n:Nat)(t:B)(a b:Ex)(p:Nat):exS (.mk 15 o n t [a,b] p)=withinS (lowE (lv o) a) (exS a) ++ 32 :: (opX o ++ 32 :: withinS (lowE (opL o+1) b) (exS b)):=by simp[exS,Fb,Jr]
theorem Ad1(o n:Nat)(t:B)(a:List Ex)(p:Nat):exS (.mk 7 o n t a p)=t ++ 40 :: (commasS (a.map exS) ++ [41]):=by simp[exS,Fb,L1]
theorem L3:∀(N:Nat) (e:Ex),SizeOf.sizeOf e<=N->WfE VW e->Lxs (exS e) (exT e) Br/\∃c r,exS e=c :: r/\c≠61
 | 0,.mk k o n t args p,hN,_=>by simp at hN
 | N+1,.mk k o n t args p,hN,hw=>by
  rw[WfE] at hw;obtain⟨hf,hs⟩:=hw;simp only[Ex.mk.sizeOf_spec] at hN;rcases hf with h | h | h | h | h | h | h | h
  .obtain⟨rfl,rfl,rfl,a0,x,hx⟩:=h;have hw:=Ac9 (Ad0 hx);have e1:exS (.mk 1 0 n [] args p)=Et 2 (dg n):=by simp[exS,Fb,Et]
   have e2:exT (.mk 1 0 n [] args p)=[⟨2,dg n,n,0⟩]:=by simp[exT,Px.exK]
   rw[e1,e2];exact⟨Cz hw,G7 (by decide) hw⟩
  .obtain⟨rfl,rfl,rfl,a0,hn⟩:=h;rcases (show n=0\/n=1 by omega) with rfl | rfl
   .have hw:Wf true 1 [102,97,108,115,101] 0:=Bq (x:=102) (r:=[97,108,115,101]) rfl ⟨by decide,by decide⟩;have e1:exS (.mk 2 0 0 [] args p)=Et 1 [102,97,108,115,101]:=by simp[exS,Fb,Et]
    have e2:exT (.mk 2 0 0 [] args p)=[⟨1,[102,97,108,115,101],0,0⟩]:=by simp[exT,Px.exK,wd]
    rw[e1,e2];exact⟨Cz hw,G7 (by decide) hw⟩
   .have hw:Wf true 1 [116,114,117,101] 0:=Bq (x:=116) (r:=[114,117,101]) rfl ⟨by decide,by decide⟩;have e1:exS (.mk 2 0 1 [] args p)=Et 1 [116,114,117,101]:=by simp[exS,Fb,Et]
    have e2:exT (.mk 2 0 1 [] args p)=[⟨1,[116,114,117,101],0,0⟩]:=by simp[exT,Px.exK,wd]
    rw[e1,e2];exact⟨Cz hw,G7 (by decide) hw⟩
  .obtain⟨rfl,rfl,rfl,a0,hv⟩:=h;have e1:exS (.mk 3 0 0 t args p)=Et 3 t:=by simp[exS,Fb,Et]
   have e2:exT (.mk 3 0 0 t args p)=[⟨3,t,0,0⟩]:=by simp[exT,Px.exK]
   rw[e1,e2];exact⟨Cz hv,G7 (by decide) hv⟩
  .obtain⟨rfl,rfl,rfl,a0,hr,hv⟩:=h;have e1:exS (.mk 6 0 0 t args p)=Et 1 t:=by simp[exS,Fb,Et]
   have e2:exT (.mk 6 0 0 t args p)=[⟨1,t,0,0⟩]:=by simp[exT,Px.exK,wd]
   rw[e1,e2];exact⟨Cz hv,G7 (by decide) hv⟩
  .obtain⟨rfl,rfl,rfl,hr,hv⟩:=h;have a4:∀e∈args,Lxs (exS e) (exT e) Br:=λ e he=>(L3 N e (by have:=Px.size_mem he;omega) (Px.WfEs_all.1 hs e he)).1
   have hc:=L2 a4;have a6:Lxs t [wd t] Br:=Cz hv;rw[Ad1,Px.exT_call];refine⟨?_,?_⟩
   .have h3:Lxs (commasS (args.map exS) ++ [41]) (Ap (args.map exT) ++ [mk4 [41]]) Br:=hc.app ((lxs_m (x:=41) (by decide)).weak (λ _ _=>trivial)) (λ z _=>Fs (by decide) _);have h4:Lxs (40 :: (commasS (args.map exS) ++ [41])) (mk4 [40] :: (Ap (args.map exT) ++ [mk4 [41]])) Br:=(lxs_m (x:=40) (by decide)).app h3 (λ _ _=>trivial);exact a6.app h4 (λ z _=>Fs (by decide) _)
   .obtain⟨c,r,e,a3⟩:=G7 (by decide) hv;have e':t=c :: r:=e;exact⟨c,r ++ 40 :: (commasS (args.map exS) ++ [41]),by rw[e'];rfl,a3⟩
  .obtain⟨rfl,rfl,rfl,rfl,a0⟩:=h
   match args,a0,hs,hN with
   | [a,b],_,hs,hN=>
    simp only[WfEs] at hs;simp only[List.cons.sizeOf_spec] at hN;have ha:=L3 N a (by omega) hs.1;have hb:=L3 N b (by omega) hs.2.1;rw[Av5,Px.exT_at];refine⟨?_,?_⟩
    .have h3:Lxs (exS b ++ [93]) (exT b ++ [mk4 [93]]) Br:=hb.1.app ((lxs_m (x:=93) (by decide)).weak (λ _ _=>trivial)) (λ z _=>Fs (by decide) _);have h4:Lxs (91 :: (exS b ++ [93])) (mk4 [91] :: (exT b ++ [mk4 [93]])) Br:=(lxs_m (x:=91) (by decide)).app h3 (λ _ _=>trivial);exact (Eg ha.1).app h4 (λ z _=>Fs (by decide) _)
    .obtain⟨c,r,e,a3⟩:=Kd (b:=lowE 7 a) ha.2;exact⟨c,r ++ 91 :: (exS b ++ [93]),by rw[e];rfl,a3⟩
  .obtain⟨hk,rfl,rfl,rfl,a0⟩:=h
   match args,a0,hs,hN with
   | [a],_,hs,hN=>
    simp only[WfEs] at hs;simp only[List.cons.sizeOf_spec] at hN;have ha:=L3 N a (by omega) hs.1;rcases hk with rfl | rfl
    .rw[Ao8,Px.exT_neg];exact⟨(lxs_m (x:=45) (by decide)).app (Eg ha.1) (λ _ _=>trivial),45,_,rfl,by decide⟩
    .rw[Ao9,Px.exT_not];exact⟨Ao7.app (Eg ha.1) (λ z _=>Sa ha.2),33,_,rfl,by decide⟩
  .obtain⟨rfl,h1,h2,rfl,rfl,a0⟩:=h
   match args,a0,hs,hN with
   | [a,b],_,hs,hN=>
    simp only[WfEs] at hs;simp only[List.cons.sizeOf_spec] at hN;have ha:=L3 N a (by omega) hs.1;have hb:=L3 N b (by omega) hs.2.1;rw[Ap0,Px.exT_bin];refine⟨?_,?_⟩
    .have a5:Lxs (opX o) [mk4 (opX o)] Br:=Cz (Ba1 h1 h2);have h3:Lxs (32 :: withinS (lowE (opL o+1) b) (exS b)) (Px.wT (opL o+1) b) Br:=(A7 (c:=32) (by decide)).app (Eg hb.1) (λ _ _=>trivial);have h4:Lxs (opX o ++ 32 :: withinS (lowE (opL o+1) b) (exS b)) (mk4 (opX o) :: Px.wT (opL o+1) b) Br:=a5.app h3 (λ z _=>I2 (by decide) _);have h5:Lxs (32 :: (opX o ++ 32 :: withinS (lowE (opL o+1) b) (exS b))) (mk4 (opX o) :: Px.wT (opL o+1) b) Br:=(A7 (c:=32) (by decide)).app h4 (λ _ _=>trivial);exact (Eg ha.1).app h5 (λ z _=>I2 (by decide) _)
    .obtain⟨c,r,e,a3⟩:=Kd (b:=lowE (lv o) a) ha.2;exact⟨c,r ++ 32 :: (opX o ++ 32 :: withinS (lowE (opL o+1) b) (exS b)),by rw[e];rfl,a3⟩
theorem Ez{e:Ex}(h:WfE VW e):Lxs (exS e) (exT e) Br:=(L3 _ e (AD _) h).1
end
section
open Px (TS TSim Ex St Sl Pr exT stT stsT blk WfE WfS Cs Fq WfF WfP Ky Ty tyT slT fnT ssT fsT prT Hi mk4 wd dg Ap)
open Lx (B Tok)
def blkS(s ind:B)(none:Bool):B:=if none then [123,125] else 123 :: 10 :: (s ++ (ind ++ [125]))
def L4(k:Nat)(n:B)(es:List B)(b c:B)(none:Bool):B:=
 if k=1 then [108,101,116,32] ++ (n ++ ([32,61,32] ++ (es.getD 0 [] ++ [59])))
 else if k=2 then (if es.length=1 then [115,101,116,32] ++ (n ++ ([32,61,32] ++ (es.getD 0 [] ++ [59]))) else [115,101,116,32] ++ (n ++ ([91] ++ (es.getD 0 [] ++ ([93,32,61,32] ++ (es.getD 1 [] ++ [59]))))))
 else if k=3 then [100,101,108,32] ++ (n ++ ([91] ++ (es.getD 0 [] ++ [93,59])))
 else if k=4 then [105,102,32] ++ (es.getD 0 [] ++ ([32] ++ (b ++ if none then [] else [32,101,108,115,101,32] ++ c)))
 else if k=5 then [102,111,114,32] ++ (n ++ ([32,116,111,32] ++ (es.getD 0 [] ++ ([32] ++ b))))
 else [114,101,116,32] ++ (es.getD 0 [] ++ [59])
mutual
def stS:St->B->B
 | .mk k n es b c _,ind=>L4 k n (es.map exS) (blkS (H9 b ind) ind b.isEmpty) (blkS (H9 c ind) ind c.isEmpty) c.isEmpty
def H9:List St->B->B
 | [],_=>[]
 | s :: r,ind=>ind ++ ([9] ++ (stS s (ind ++ [9]) ++ ([10] ++ H9 r ind)))
end
theorem D7{x:UInt8}{r:B}(h:Lx.tokR true (x :: r)=Lx.R.ok 1 (x :: r) 0 (r.length+1))(hb:Lx.isBlank x=false/\x≠35):Lxs ((x :: r) ++ [32]) [wd (x :: r)] Any:=
 (Cz (Bq h hb):Lxs (x :: r) [wd (x :: r)] Br).app (A7 (c:=32) (by decide)) (λ z _=>I2 (by decide) z)
theorem Uo:Lxs [32,61,32] [mk4 [61]] Any:=
 (A7 (c:=32) (by decide)).app ((Cz (Bq (x:=61) (r:=[]) (k:=4) rfl ⟨by decide,by decide⟩):Lxs [61] [mk4 [61]] Br).app (A7 (c:=32) (by decide)) (λ z _=>I2 (by decide) z)) (λ _ _=>trivial)
theorem Js{s:B}{t:List Tok}(h:Lxs s t Any):Lxs s t Br:=h.weak (λ _ _=>trivial)
theorem Ap1:Lxs [108,101,116,32] [wd [108,101,116]] Any:=D7 (x:=108) (r:=[101,116]) rfl ⟨by decide,by decide⟩
theorem W0:Lxs [115,101,116,32] [wd [115,101,116]] Any:=D7 (x:=115) (r:=[101,116]) rfl ⟨by decide,by decide⟩
theorem Ap2:Lxs [100,101,108,32] [wd [100,101,108]] Any:=D7 (x:=100) (r:=[101,108]) rfl ⟨by decide,by decide⟩
theorem Ad2:Lxs [105,102,32] [wd [105,102]] Any:=D7 (x:=105) (r:=[102]) rfl ⟨by decide,by decide⟩
theorem Ap3:Lxs [102,111,114,32] [wd [102,111,114]] Any:=D7 (x:=102) (r:=[111,114]) rfl ⟨by decide,by decide⟩
theorem Ap4:Lxs [114,101,116,32] [wd [114,101,116]] Any:=D7 (x:=114) (r:=[101,116]) rfl ⟨by decide,by decide⟩
theorem Av6:Lxs [32,116,111,32] [wd [116,111]] Any:=(A7 (c:=32) (by decide)).app (D7 (x:=116) (r:=[111]) rfl ⟨by decide,by decide⟩) (λ _ _=>trivial)
theorem Ad3:Lxs [32,101,108,115,101,32] [wd [101,108,115,101]] Any:=(A7 (c:=32) (by decide)).app (D7 (x:=101) (r:=[108,115,101]) rfl ⟨by decide,by decide⟩) (λ _ _=>trivial)
theorem Sb:Lxs [118,101,114,115,105,111,110,32] [wd [118,101,114,115,105,111,110]] Any:=D7 (x:=118) (r:=[101,114,115,105,111,110]) rfl ⟨by decide,by decide⟩
theorem Ye:Lxs [115,116,97,116,101,32] [wd [115,116,97,116,101]] Any:=D7 (x:=115) (r:=[116,97,116,101]) rfl ⟨by decide,by decide⟩
theorem Av7:Lxs [102,110,32] [wd [102,110]] Any:=D7 (x:=102) (r:=[110]) rfl ⟨by decide,by decide⟩
theorem Av8:Lxs [111,110,32] [wd [111,110]] Any:=D7 (x:=111) (r:=[110]) rfl ⟨by decide,by decide⟩
theorem L5{n:B}(h:Ky VW n):Lxs n [wd n] Br:=Cz h.2
theorem Gh:Lxs [59] [mk4 [59]] Any:=lxs_m (by decide)
theorem D5{s s2:B}{x:UInt8}{t1 t2:List Tok}{A:B->Prop}(h1:Lxs s t1 Br)(hx:x∈m1)(h2:Lxs (x :: s2) t2 A):Lxs (s ++ x :: s2) (t1 ++ t2) A:=h1.app h2 (λ z _=>Fs hx _)
theorem L6{s s2:B}{x:UInt8}{t1 t2:List Tok}{A:B->Prop}(h1:Lxs s t1 Br)(hx:Lx.isBlank x=true)(h2:Lxs (x :: s2) t2 A):Lxs (s ++ x :: s2) (t1 ++ t2) A:=h1.app h2 (λ z _=>I2 hx _)
theorem app_a{s s2:B}{t1 t2:List Tok}{A:B->Prop}(h1:Lxs s t1 Any)(h2:Lxs s2 t2 A):Lxs (s ++ s2) (t1 ++ t2) A:=h1.app h2 (λ _ _=>trivial)
theorem Up{s a0:B}{ts:List Tok}{none:Bool}(hi:∀c∈a0,Lx.isBlank c=true)(h:Lxs s ts Any)(hn:none=true->ts=[]):Lxs (blkS s a0 none) (blk ts) Any:=by
 unfold blkS;split
 .rename_i hh;rw[hn hh];exact app_a (lxs_m (x:=123) (by decide)) (lxs_m (x:=125) (by decide))
 .have h2:Lxs (s ++ (a0 ++ [125])) (ts ++ ([] ++ [mk4 [125]])) Any:=app_a h (app_a (H8 hi) (lxs_m (x:=125) (by decide)));exact app_a (lxs_m (x:=123) (by decide)) (app_a (A7 (c:=10) (by decide)) h2)
theorem Av9{V':Prop}{k:Nat}{n:B}{es:List Ex}{b c:List St}{bs cs:B}(hf:Px.FormS VW k n es.length b c)(he:∀e∈es,WfE VW e)(hb:Lxs bs (blk (stsT b)) Any)(hc:Lxs cs (blk (stsT c)) Any) :
  Lxs (L4 k n (es.map exS) bs cs c.isEmpty) (Px.stK k n (es.map exT) (stsT b) (stsT c) c.isEmpty) Any:=by
 rcases hf with h | h | h | h | h | h
 .obtain⟨rfl,hn,a0,rfl,rfl⟩:=h
  match es,a0,he with
  | [x],_,he=>
   have hx:=Ez (he x (by simp));exact app_a Ap1 (L6 (L5 hn) (by decide) (app_a Uo (D5 hx (by decide) Gh)))
 .obtain⟨rfl,hn,a0,rfl,rfl⟩:=h
  match es,a0,he with
  | [x],_,he=>
   have hx:=Ez (he x (by simp));exact app_a W0 (L6 (L5 hn) (by decide) (app_a Uo (D5 hx (by decide) Gh)))
  | [y,x],_,he=>
   have hy:=Ez (he y (by simp));have hx:=Ez (he x (by simp));exact app_a W0 (D5 (L5 hn) (by decide) (app_a (lxs_m (x:=91) (by decide)) (D5 hy (by decide) (app_a (app_a (lxs_m (x:=93) (by decide)) Uo) (D5 hx (by decide) Gh)))))
 .obtain⟨rfl,hn,a0,rfl,rfl⟩:=h
  match es,a0,he with
  | [x],_,he=>
   have hx:=Ez (he x (by simp));exact app_a Ap2 (D5 (L5 hn) (by decide) (app_a (lxs_m (x:=91) (by decide)) (D5 hx (by decide) (app_a (lxs_m (x:=93) (by decide)) Gh))))
 .obtain⟨rfl,rfl,a0⟩:=h
  match es,a0,he with
  | [x],_,he=>
   have hx:=Ez (he x (by simp));rcases c with _ | ⟨c1,c2⟩
   .have h2:Lxs (bs ++ []) (blk (stsT b) ++ []) Any:=app_a hb Lxs.nil;exact app_a Ad2 (L6 hx (by decide) (app_a (A7 (c:=32) (by decide)) h2))
   .have h2:Lxs (bs ++ ([32,101,108,115,101,32] ++ cs)) (blk (stsT b) ++ ([wd [101,108,115,101]] ++ blk (stsT (c1 :: c2)))) Any:=app_a hb (app_a Ad3 hc);exact app_a Ad2 (L6 hx (by decide) (app_a (A7 (c:=32) (by decide)) h2))
 .obtain⟨rfl,hn,a0,rfl⟩:=h
  match es,a0,he with
  | [x],_,he=>
   have hx:=Ez (he x (by simp));exact app_a Ap3 (L6 (L5 hn) (by decide) (app_a Av6 (L6 hx (by decide) (app_a (A7 (c:=32) (by decide)) hb))))
 .obtain⟨rfl,rfl,a0,rfl,rfl⟩:=h
  match es,a0,he with
  | [x],_,he=>
   have hx:=Ez (he x (by simp));exact app_a Ap4 (D5 hx (by decide) Gh)
theorem Yf{a0:B}(h:∀c∈a0,Lx.isBlank c=true):∀c∈a0 ++ [9],Lx.isBlank c=true:=by
 intro c hc;simp at hc;rcases hc with hc | rfl
 .exact h c hc
 .decide
theorem Gi{b:List St}(h:b.isEmpty=true):stsT b=[]:=by
 rcases b with _ | ⟨s,r⟩
 .rfl
 .simp at h
mutual
theorem Ba2:∀(s:St) (ind:B),WfS VW s->(∀c∈ind,Lx.isBlank c=true)->Lxs (stS s ind) (stT s) Any
 | .mk k n es b c p,ind,hw,hi=>by
  rw[WfS] at hw;obtain⟨hf,he,hb,hc⟩:=hw;rw[stS,stT];exact Av9 (V':=True) hf he (Up hi (P3 b ind hb hi) Gi) (Up hi (P3 c ind hc hi) Gi)
theorem P3:∀(l:List St) (ind:B),Cs VW l->(∀c∈ind,Lx.isBlank c=true)->Lxs (H9 l ind) (stsT l) Any
 | [],ind,_,_=>by rw[H9,stsT];exact Lxs.nil
 | s :: r,ind,hw,hi=>by
  rw[Cs] at hw;rw[H9,stsT];have h:Lxs (ind ++ ([9] ++ (stS s (ind ++ [9]) ++ ([10] ++ H9 r ind)))) ([] ++ ([] ++ (stT s ++ ([] ++ stsT r)))) Any:=app_a (H8 hi) (app_a (A7 (c:=9) (by decide)) (app_a (Ba2 s (ind ++ [9]) hw.1 (Yf hi)) (app_a (A7 (c:=10) (by decide)) (P3 r ind hw.2 hi))));exact h
end
theorem N1:Lxs [58,32] [mk4 [58]] Any:=app_a (lxs_m (x:=58) (by decide)) (A7 (c:=32) (by decide))
theorem At0{k:Nat}{y:B}{c:List Tok}(h:Ty k y c):Lxs y c Br:=by
 induction h with
 | int=>exact Cz (Bq (x:=105) (r:=[110,116]) (k:=1) rfl ⟨by decide,by decide⟩)
 | bool=>exact Cz (Bq (x:=98) (r:=[111,111,108]) (k:=1) rfl ⟨by decide,by decide⟩)
 | text=>exact Cz (Bq (x:=116) (r:=[101,120,116]) (k:=1) rfl ⟨by decide,by decide⟩)
 | @list k y c _ ih=>
  have h2:Lxs (y ++ [93]) (c ++ [mk4 [93]]) Br:=D5 ih (by decide) (Js (lxs_m (x:=93) (by decide)));have:=app_a (lxs_m (x:=91) (by decide)) h2;simpa using this
 | @map k a y c ha _ ih=>
  have hA:Lxs a [wd a] Br:=by
   rcases ha with rfl | rfl
   .exact Cz (Bq (x:=105) (r:=[110,116]) (k:=1) rfl ⟨by decide,by decide⟩)
   .exact Cz (Bq (x:=116) (r:=[101,120,116]) (k:=1) rfl ⟨by decide,by decide⟩)
  have h2:Lxs (y ++ [125]) (c ++ [mk4 [125]]) Br:=D5 ih (by decide) (Js (lxs_m (x:=125) (by decide)));have h3:Lxs (58 :: (y ++ [125])) (mk4 [58] :: (c ++ [mk4 [125]])) Br:=app_a (lxs_m (x:=58) (by decide)) h2;have:=app_a (lxs_m (x:=123) (by decide)) (D5 hA (by decide) h3);simpa using this
def slS(s:Sl):B:=s.name ++ ([58,32] ++ s.type)
theorem Ad4{s:Sl}(h:Fq VW s):Lxs (slS s) (slT s) Br:=by
 obtain⟨hn,c,hc⟩:=h;exact D5 (L5 hn) (by decide) (app_a N1 (At0 (Px.tyT_spec hc)))
theorem Ad5:∀{l:List Sl},(∀s∈l,Fq VW s)->Lxs (commasS (l.map slS)) (Ap (l.map slT)) Br
 | [],_=>Js Lxs.nil
 | [a],h=>Ad4 (h a (by simp))
 | a :: b :: r,h=>by
  have ih:=Ad5 (l:=b :: r) (λ e he=>h e (by simp at he ⊢;exact AJ he));simp only[map_cons] at ih ⊢;rw[commasS,Ap];exact D5 (Ad4 (h a (by simp))) (by decide) (app_a (lxs_m (x:=44) (by decide)) (app_a (A7 (c:=32) (by decide)) ih))
def fnS(f:Px.Fn):B:=f.name ++ ([40] ++ (commasS (f.params.map slS) ++ ([41,58,32] ++ (f.result ++ ([32] ++ (blkS (H9 f.body []) [] f.body.isEmpty ++ [10]))))))
theorem Ba3{f:Px.Fn}(h:WfF VW f):Lxs (fnS f) (fnT f) Any:=by
 obtain⟨hn,hp,⟨c,hc⟩,hb,hd⟩:=h;have h1:Lxs (blkS (H9 f.body []) [] f.body.isEmpty ++ [10]) (blk (stsT f.body) ++ []) Any:=app_a (Up (by simp) (P3 f.body [] hb (by simp)) Gi) (A7 (c:=10) (by decide));rw[append_nil] at h1;have h2:Lxs (f.result ++ ([32] ++ (blkS (H9 f.body []) [] f.body.isEmpty ++ [10]))) (tyT f.result ++ blk (stsT f.body)) Any:=L6 (At0 (Px.tyT_spec hc)) (by decide) (app_a (A7 (c:=32) (by decide)) h1);have h3:Lxs ([41,58,32] ++ (f.result ++ ([32] ++ (blkS (H9 f.body []) [] f.body.isEmpty ++ [10])))) (mk4 [41] :: mk4 [58] :: (tyT f.result ++ blk (stsT f.body))) Any:=app_a (lxs_m (x:=41) (by decide)) (app_a N1 h2);exact D5 (L5 hn) (by decide) (app_a (lxs_m (x:=40) (by decide)) (D5 (Ad5 hp) (by decide) h3))
def ssS:List Sl->B
 | []=>[]
 | s :: r=>[115,116,97,116,101,32] ++ (slS s ++ ([59,10] ++ ssS r))
def fsS:List Px.Fn->B
 | []=>[]
 | f :: r=>(if f.on then [111,110,32] else [102,110,32]) ++ (fnS f ++ fsS r)
def prS(p:Pr):B:=[118,101,114,115,105,111,110,32] ++ (dg p.version ++ ([59,10] ++ (ssS p.states ++ fsS p.fns)))
theorem Sd:Lxs [59,10] [mk4 [59]] Any:=app_a (lxs_m (x:=59) (by decide)) (A7 (c:=10) (by decide))
theorem At1:∀{l:List Sl},(∀s∈l,Fq VW s)->Lxs (ssS l) (ssT l) Any
 | [],_=>by rw[ssS,ssT];exact Lxs.nil
 | s :: r,h=>by
  rw[ssS,ssT];exact app_a Ye (D5 (Ad4 (h s (by simp))) (by decide) (app_a Sd (At1 (λ x hx=>h x (by simp[hx])))))
theorem At2:∀{l:List Px.Fn},(∀f∈l,WfF VW f)->Lxs (fsS l) (fsT l) Any
 | [],_=>by rw[fsS,fsT];exact Lxs.nil
 | f :: r,h=>by
  rw[fsS,fsT];have h1:Lxs (if f.on then [111,110,32] else [102,110,32]) [wd (if f.on then [111,110] else [102,110])] Any:=by
   rcases f.on with _ | _
   .exact Av7
   .exact Av8
  exact app_a h1 (app_a (Ba3 (h f (by simp))) (At2 (λ x hx=>h x (by simp[hx]))))
theorem Aw0{p:Pr}(h:WfP VW p)(hc:(prT p).length<=4096):∃us,TSim (prT p) us/\Lx.lexGo true (prS p) 0 0=.inl us:=by
 obtain⟨⟨x,hv⟩,hs,hf⟩:=h;have hn:Lxs (dg p.version) [⟨2,dg p.version,p.version,0⟩] Br:=Cz (Ac9 (Ad0 hv));have hp:Lxs (prS p) ([wd [118,101,114,115,105,111,110]] ++ ([⟨2,dg p.version,p.version,0⟩] ++ ([mk4 [59]] ++ (ssT p.states ++ fsT p.fns)))) Any:=app_a Sb (D5 hn (by decide) (app_a Sd (app_a (At1 hs) (At2 hf))));have e:prT p=([wd [118,101,114,115,105,111,110]] ++ ([⟨2,dg p.version,p.version,0⟩] ++ ([mk4 [59]] ++ (ssT p.states ++ fsT p.fns)))) ++ [Hi]:=by simp[prT]
 rw[e] at hc ⊢;generalize [wd [118,101,114,115,105,111,110]] ++ ([⟨2,dg p.version,p.version,0⟩] ++ ([mk4 [59]] ++ (ssT p.states ++ fsT p.fns)))=ts at *;rw[length_append] at hc;simp only[length_cons,length_nil] at hc;obtain⟨us,hu,h1⟩:=hp [] 0 0 trivial (by omega);rw[append_nil] at h1;refine⟨us ++ [⟨5,[],0,0+(prS p).length⟩],R7 hu (.cons ⟨rfl,rfl,rfl⟩ .nil),?_⟩;rw[h1,Lx.lexGo_end (by rfl),if_pos (by omega)];rfl
end
section
open Px (TSim Ex St Sl Pr exT WfE WfP prT lowE lv opL opX dg)
open Lx (B Tok)
mutual
theorem Ad6:∀e:Ex,e.er.er=e.er
 | .mk k o n t a p=>by simp only[Px.Ex.er];rw[Jt a]
theorem Jt:∀l:List Ex,Px.ersE (Px.ersE l)=Px.ersE l
 | []=>by simp[Px.ersE]
 | e :: r=>by simp only[Px.ersE];rw[Ad6 e,Jt r]
end
mutual
theorem Ad7:∀s:St,s.er.er=s.er
 | .mk k n es b c p=>by simp only[Px.St.er];rw[Jt es,G8 b,G8 c]
theorem G8:∀l:List St,Px.ersS (Px.ersS l)=Px.ersS l
 | []=>by simp[Px.ersS]
 | e :: r=>by simp only[Px.ersS];rw[Ad7 e,G8 r]
end
theorem Ad8(p:Pr):p.er.er=p.er:=by
 simp only[Pr.er,map_map];congr 1;refine map_congr_left (λ f _=>?_);simp only[Function.comp,Px.Fn.er,map_map,G8];congr 1
theorem W1{k:Nat}{t:B}(hk:k=1\/k=3)(h:Wf true k t m):m=0:=by
 have h1:=h.reads [] (λ c hc=>by simp at hc);obtain⟨y,r,e,_,_⟩:=h.head;rw[append_nil,e] at h1;rcases Lz h1 with h2 | h2
 .exact h2.2.1
 .have a0:k=1:=by rcases hk with h | h;exact h;exact absurd h h2.1
  subst a0;simp only[Lx.tokR] at h1;split at h1
  .unfold Lx.nameR at h1;split at h1
   .simp only[Lx.R.ok,Sum.inl.injEq,Prod.mk.injEq] at h1;exact h1.2.2.1.symm
   .simp[Lx.R.ok,Lx.R.bad] at h1
  split at h1
  .unfold Lx.numberR at h1;split at h1
   .simp[Lx.R.ok,Lx.R.bad] at h1
   split at h1 <;> simp[Lx.R.ok,Lx.R.bad] at h1
  split at h1
  .have:=Bm r.length r 1 [] 1 _ m _ (AD _) h1;omega
  .unfold Lx.markR at h1;split at h1 <;> simp[Lx.R.ok,Lx.R.bad] at h1
theorem Ad9{b:B}{ts:List Tok}(h:Lx.lex true b=.inl ts):Px.AllV VW ts:=by
 unfold Lx.lex at h;split at h
 .simp at h
 .have hw:=Av3 true b (b.length+1) 0 0 ts (by omega) (by omega) (by simpa using h);intro t ht;rcases hw t ht with⟨h5,_,_⟩ | hw
  .exact⟨λ h1=>by omega,λ h1=>by omega,λ h1=>by omega⟩
  .refine⟨λ h1=>?_,λ h1=>?_,λ h1=>?_⟩
   .rw[h1] at hw;have:=W1 (AI rfl) hw;rw[this] at hw;exact hw
   .rw[h1] at hw;exact hw
   .rw[h1] at hw;have:=W1 (AJ rfl) hw;rw[this] at hw;exact hw
theorem Uq{b:B}{p:Pr}(h:Px.parse b=.inl p):WfP VW p/\∃ts,Lx.lex true b=.inl ts/\(prT p).length<=ts.length/\ts.length<=4096:=by
 unfold Px.parse at h;rcases hl:Lx.lex true b with ts | x
 .rw[hl] at h;simp only at h;rcases hp:Px.program ts with⟨q,l'⟩ | x
  .rw[hp] at h;simp at h;subst h;obtain⟨h1,h2⟩:=Px.program_sm (Ad9 hl) hp;exact⟨h1,ts,rfl,h2,Wn hl⟩
  .rw[hp] at h;simp at h
 .rw[hl] at h;simp at h
theorem Ur{p:Pr}(hw:WfP VW p)(hc:(prT p).length<=4096)(hl:(prS p).length<=16384):∃us q,Lx.lex true (prS p)=.inl us/\us.length=(prT p).length/\Px.parse (prS p)=.inl q/\q.er=p.er:=by
 obtain⟨us,hu,he⟩:=Aw0 hw hc;have a0:Lx.lex true (prS p)=.inl us:=by unfold Lx.lex;rw[if_neg (by omega)];exact he
 have hs:=Px.program_sim _ _ hu;rw[Px.program_back hw] at hs;rcases hq:Px.program us with⟨q,l'⟩ | x
 .rw[hq] at hs;have h1:p.er.er=q.er:=hs.1;rw[Ad8] at h1;refine⟨us,q,a0,hu.len.symm,?_,h1.symm⟩;unfold Px.parse;rw[a0];simp only[hq]
 .rw[hq] at hs;exact absurd hs (by rcases x with⟨a,e⟩;exact λ h=>h)
end
section
namespace Px
open Lx (Tok B)
def IsTy(k:Nat)(y:B):Prop:=∃c,Ty k y c
end Px
end
section
open Px (Ex St Sl Pr exT WfE WfS Cs Fq WfF WfP Ky Ty IsTy lowE lv opL opX dg)
open Lx (B Tok)
inductive GE where
 | mk (kind op num:Int) (text:B) (args:List GE)
inductive GS where
 | mk (kind:Int) (name:B) (es:List GE) (body other:List GS)
structure GF where
 name:B
 on:Bool
 params:List (B × B)
 result:B
 body:List GS
structure GP where
 version:Int
 states:List (B × B)
 fns:List GF
instance:Inhabited GE:=⟨.mk 0 0 0 [] []⟩
def GE.k:GE->Int
 | .mk k _ _ _ _=>k
def GE.o:GE->Int
 | .mk _ o _ _ _=>o
def gL(o:Int):Nat:=if 0<=o then opL o.toNat else 0
def gName(t:B):Bool:=wordB t && !Px.reserved t
open Classical in
noncomputable def gType (y:B):Bool:=if IsTy 4 y then true else false
def Bv(n:Nat)(e:GE):Bool:=(e.k == 15 && decide (gL e.o<n)) || (decide (6<n) && (e.k == 13 || e.k == 14))
def gKS(k o n:Int)(t:B)(args:List GE)(xs:List B):Option B:=
 if k=1 then (if xs.length=0/\0<=n then some (dg n.toNat) else none)
 else if k=2 then (if xs.length=0/\0<=n/\n<=1 then some (if n=1 then [116,114,117,101] else [102,97,108,115,101]) else none)
 else if k=3 then (if xs.length=0/\plainB t=true then some (Fl t) else none)
 else if k=6 then (if xs.length=0/\gName t=true then some t else none)
 else if k=7 then (if gName t=true then some (t ++ 40 :: (commasS xs ++ [41])) else none)
 else if k=12 then (if xs.length=2 then some (withinS (Bv 7 (args.getD 0 default)) (xs.getD 0 []) ++ 91 :: (xs.getD 1 [] ++ [93])) else none)
 else if k=13 then (if xs.length=1 then some (45 :: withinS (Bv 6 (args.getD 0 default)) (xs.getD 0 [])) else none)
 else if k=14 then (if xs.length=1 then some (33 :: withinS (Bv 6 (args.getD 0 default)) (xs.getD 0 [])) else none)
 else if k=15 then (if xs.length=2/\gL o≠0 then some (withinS (Bv (lv o.toNat) (args.getD 0 default)) (xs.getD 0 []) ++ 32 :: (opX o.toNat ++ 32 :: withinS (Bv (gL o+1) (args.getD 1 default)) (xs.getD 1 []))) else none)
 else none
mutual
def gE:GE->Option B
 | .mk k o n t args=>match gEs args with
  | some xs=>gKS k o n t args xs
  | none=>none
def gEs:List GE->Option (List B)
 | []=>some []
 | e :: r=>match gE e,gEs r with
  | some x,some xs=>some (x :: xs)
  | _,_=>none
end
def gBlk(s:Option B)(ind:B)(none:Bool):Option B:=s.map λ s=>blkS s ind none
def gSK(k:Int)(n:B)(es:List GE)(b c:Option B)(none:Bool):Option B:=
 if k<1\/6<k\/es.length<1\/2<es.length\/(es.length=2/\k≠2) then .none
 else if k≠4/\k≠6/\gName n=false then .none
 else match gE (es.getD 0 default) with
  | .none=>.none
  | some x=>
   if k=1 then some ([108,101,116,32] ++ (n ++ ([32,61,32] ++ (x ++ [59]))))
   else if k=2 then (if es.length=1 then some ([115,101,116,32] ++ (n ++ ([32,61,32] ++ (x ++ [59])))) else (gE (es.getD 1 default)).map λ y=>[115,101,116,32] ++ (n ++ ([91] ++ (x ++ ([93,32,61,32] ++ (y ++ [59]))))))
   else if k=3 then some ([100,101,108,32] ++ (n ++ ([91] ++ (x ++ [93,59]))))
   else if k=6 then some ([114,101,116,32] ++ (x ++ [59]))
   else match b with
    | .none=>.none
    | some b=>
     if k=5 then some ([102,111,114,32] ++ (n ++ ([32,116,111,32] ++ (x ++ ([32] ++ b)))))
     else if none then some ([105,102,32] ++ (x ++ ([32] ++ b)))
     else c.map λ c=>[105,102,32] ++ (x ++ ([32] ++ (b ++ ([32,101,108,115,101,32] ++ c))))
mutual
def gSt:GS->B->Option B
 | .mk k n es b c,ind=>gSK k n es (gBlk (gSts b ind) ind b.isEmpty) (gBlk (gSts c ind) ind c.isEmpty) c.isEmpty
def gSts:List GS->B->Option B
 | [],_=>some []
 | s :: r,ind=>match gSt s (ind ++ [9]),gSts r ind with
  | some x,some y=>some (ind ++ ([9] ++ (x ++ ([10] ++ y))))
  | _,_=>none
end
noncomputable def gSl (s:B × B):Option B:=if gName s.1=true/\gType s.2=true then some (s.1 ++ ([58,32] ++ s.2)) else none
noncomputable def P4:List (B × B)->Option (List B)
 | []=>some []
 | s :: r=>match gSl s,P4 r with
  | some x,some xs=>some (x :: xs)
  | _,_=>none
noncomputable def gFn (f:GF):Option B:=
 if gName f.name=true/\gType f.result=true then
  match P4 f.params,gBlk (gSts f.body []) [] f.body.isEmpty with
  | some ps,some b=>some ((if f.on then [111,110,32] else [102,110,32]) ++ (f.name ++ ([40] ++ (commasS ps ++ ([41,58,32] ++ (f.result ++ ([32] ++ (b ++ [10]))))))))
  | _,_=>none
 else none
noncomputable def gSs:List (B × B)->Option B
 | []=>some []
 | s :: r=>match gSl s,gSs r with
  | some x,some y=>some ([115,116,97,116,101,32] ++ (x ++ ([59,10] ++ y)))
  | _,_=>none
noncomputable def gFs:List GF->Option B
 | []=>some []
 | f :: r=>match gFn f,gFs r with
  | some x,some y=>some (x ++ y)
  | _,_=>none
noncomputable def gPr (p:GP):Option B:=
 if 0<=p.version then
  match gSs p.states,gFs p.fns with
  | some x,some y=>some ([118,101,114,115,105,111,110,32] ++ (dg p.version.toNat ++ ([59,10] ++ (x ++ y))))
  | _,_=>none
 else none
noncomputable def N2 (form:Nat) (p:GP):B × Nat:=
 match gPr p with
 | none=>([],form)
 | some s=>if 16384<s.length then ([],3) else (s,0)
/- What was read,aS0 such a program. -/
mutual
def Nb:Ex->GE
 | .mk k o n t args _=>.mk k o n t (Cb args)
def Cb:List Ex->List GE
 | []=>[]
 | e :: r=>Nb e :: Cb r
end
mutual
def P5:St->GS
 | .mk k n es b c _=>.mk k n (Cb es) (ofSts b) (ofSts c)
def ofSts:List St->List GS
 | []=>[]
 | s :: r=>P5 s :: ofSts r
end
def P6(s:Sl):B × B:=(s.name,s.type)
def ofFn(f:Px.Fn):GF:=⟨f.name,f.on,f.params.map P6,f.result,ofSts f.body⟩
def ofPr(p:Pr):GP:=⟨p.version,p.states.map P6,p.fns.map ofFn⟩
theorem N3:∀l,Cb l=l.map Nb
 | []=>by simp[Cb]
 | e :: r=>by simp[Cb,N3 r]
theorem N4:∀l,ofSts l=l.map P5
 | []=>by simp[ofSts]
 | e :: r=>by simp[ofSts,N4 r]
theorem gL_nat(o:Nat):gL (o:Int)=opL o:=by simp[gL]
theorem P7(k x:Nat):((k:Int) == (x:Int))=(k == x):=by
 rcases h:(k == x) with _ | _
 .simp at h ⊢;omega
 .simp at h ⊢;omega
theorem K3(n:Nat)(e:Ex):Bv n (Nb e)=lowE n e:=by
 match e with
 | .mk k o m t a p=>
  rw[Nb];show ((((k:Int) == ((15:Nat):Int)) && decide (gL (o:Int)<n)) || (decide (6<n) && (((k:Int) == ((13:Nat):Int)) || ((k:Int) == ((14:Nat):Int)))))=(((k == 15) && decide (opL o<n)) || (decide (6<n) && ((k == 13) || (k == 14))));rw[P7,P7,P7,gL_nat]
theorem I3{t:B}(h:VW 1 t m):wordB t=true:=by
 have h1:=h.reads [] (λ c hc=>by simp at hc);obtain⟨y,r,e,_,_⟩:=h.head;have hw:Et 1 t=t:=rfl;rw[hw] at e h1;rw[append_nil] at h1;rw[e] at h1 ⊢;simp only[Lx.tokR] at h1;split at h1
 .rename_i hl;unfold Lx.nameR at h1;split at h1
  .rename_i h16;simp only[Lx.R.ok,Sum.inl.injEq,Prod.mk.injEq] at h1;rw[h1.2.1] at h16;simp only[wordB,Bool.and_eq_true,decide_eq_true_eq];refine⟨h16,hl,?_⟩;rw[all_eq_true];intro c hc;rw[<-h1.2.1] at hc;exact Lx.tw_mem c hc
  .simp[Lx.R.ok,Lx.R.bad] at h1
 split at h1
 .unfold Lx.numberR at h1;split at h1
  .simp[Lx.R.ok,Lx.R.bad] at h1
  split at h1 <;> simp[Lx.R.ok,Lx.R.bad] at h1
 split at h1
 .have:=Bm r.length r 1 [] 1 _ m _ (AD _) h1;omega
 .unfold Lx.markR at h1;split at h1 <;> simp[Lx.R.ok,Lx.R.bad] at h1
theorem Dm{t:B}(h:Ky VW t):gName t=true:=by simp[gName,I3 h.2,h.1]
theorem Ju{t:B}(h:VW 3 t m):plainB t=true:=by
 have h1:=h.reads [] (λ c hc=>by simp at hc);obtain⟨y,r,e,_,_⟩:=h.head;rw[append_nil,e] at h1;rcases Lz h1 with h2 | h2
 .exact h2.2.2
 .exact absurd rfl h2.1
mutual
theorem Hr:∀e:Ex,WfE VW e->gE (Nb e)=some (exS e)
 | .mk k o n t args p,hw=>by
  rw[WfE] at hw;obtain⟨hf,hs⟩:=hw;rw[Nb,gE,Ae0 args hs];simp only;have a0:(Jr args).length=args.length:=by rw[L1];simp
  rw[exS];rcases hf with h | h | h | h | h | h | h | h
  .obtain⟨rfl,rfl,rfl,hl,_⟩:=h;simp[gKS,Fb,a0,hl]
  .obtain⟨rfl,rfl,rfl,hl,hn⟩:=h;rcases (show n=0\/n=1 by omega) with rfl | rfl <;> simp[gKS,Fb,a0,hl]
  .obtain⟨rfl,rfl,rfl,hl,hv⟩:=h;simp[gKS,Fb,a0,hl,Ju hv]
  .obtain⟨rfl,rfl,rfl,hl,hr,hv⟩:=h;simp[gKS,Fb,a0,hl,Dm ⟨hr,hv⟩]
  .obtain⟨rfl,rfl,rfl,hr,hv⟩:=h;simp[gKS,Fb,Dm ⟨hr,hv⟩]
  .obtain⟨rfl,rfl,rfl,rfl,hl⟩:=h
   match args,hl,a0 with
   | [a,b],_,a0=>
    simp[gKS,Fb,a0,Cb,K3]
  .obtain⟨hk,rfl,rfl,rfl,hl⟩:=h
   match args,hl,a0 with
   | [a],_,a0=>
    rcases hk with rfl | rfl
    .simp[gKS,Fb,a0,Cb,K3]
    .simp[gKS,Fb,a0,Cb,K3]
  .obtain⟨rfl,h1,h2,rfl,rfl,hl⟩:=h
   match args,hl,a0 with
   | [a,b],_,a0=>
    have hp:=(Px.opL_pos h1 h2).1;have hg:gL (o:Int)=opL o:=by simp[gL]
    have a3:opL o≠0:=by omega
    simp[gKS,Fb,a0,Cb,K3,hg,a3]
theorem Ae0:∀l:List Ex,Px.WfEs VW l->gEs (Cb l)=some (Jr l)
 | [],_=>by simp[Cb,gEs,Jr]
 | e :: r,hw=>by
  rw[Px.WfEs] at hw;rw[Cb,gEs,Hr e hw.1,Ae0 r hw.2,Jr]
end
theorem Ia(b:List St):(ofSts b).isEmpty=b.isEmpty:=by
 rcases b with _ | ⟨s,r⟩ <;> simp[ofSts]
theorem Aw1{k:Nat}{n:B}{es:List Ex}{b c:List St}{bs cs:B}(hf:Px.FormS VW k n es.length b c)(he:∀e∈es,WfE VW e):gSK k n (Cb es) (some bs) (some cs) c.isEmpty=some (L4 k n (es.map exS) bs cs c.isEmpty):=by
 rcases hf with h | h | h | h | h | h
 .obtain⟨rfl,hn,hl,rfl,rfl⟩:=h
  match es,hl,he with
  | [x],_,he=>simp[gSK,L4,Cb,Dm hn,Hr x (he x (by simp))]
 .obtain⟨rfl,hn,hl,rfl,rfl⟩:=h
  match es,hl,he with
  | [x],_,he=>simp[gSK,L4,Cb,Dm hn,Hr x (he x (by simp))]
  | [y,x],_,he=>simp[gSK,L4,Cb,Dm hn,Hr y (he y (by simp)),Hr x (he x (by simp))]
 .obtain⟨rfl,hn,hl,rfl,rfl⟩:=h
  match es,hl,he with
  | [x],_,he=>simp[gSK,L4,Cb,Dm hn,Hr x (he x (by simp))]
 .obtain⟨rfl,rfl,hl⟩:=h
  match es,hl,he with
  | [x],_,he=>
   rcases c with _ | ⟨c1,c2⟩
   .simp[gSK,L4,Cb,Hr x (he x (by simp))]
   .simp[gSK,L4,Cb,Hr x (he x (by simp))]
 .obtain⟨rfl,hn,hl,rfl⟩:=h
  match es,hl,he with
  | [x],_,he=>simp[gSK,L4,Cb,Dm hn,Hr x (he x (by simp))]
 .obtain⟨rfl,rfl,hl,rfl,rfl⟩:=h
  match es,hl,he with
  | [x],_,he=>simp[gSK,L4,Cb,Hr x (he x (by simp))]
mutual
theorem Aw2:∀(s:St) (ind:B),WfS VW s->gSt (P5 s) ind=some (stS s ind)
 | .mk k n es b c p,ind,hw=>by
  rw[WfS] at hw;obtain⟨hf,he,hb,hc⟩:=hw;rw[P5,gSt,K4 b ind hb,K4 c ind hc,Ia,Ia,stS];exact Aw1 hf he
theorem K4:∀(l:List St) (ind:B),Cs VW l->gSts (ofSts l) ind=some (H9 l ind)
 | [],ind,_=>by simp[ofSts,gSts,H9]
 | s :: r,ind,hw=>by
  rw[Cs] at hw;rw[ofSts,gSts,Aw2 s _ hw.1,K4 r ind hw.2,H9]
end
theorem Ae1{s:Sl}(h:Fq VW s):gSl (P6 s)=some (slS s):=by
 obtain⟨hn,c,hc⟩:=h;have ht:gType s.type=true:=by unfold gType;rw[if_pos ⟨c,hc⟩]
 simp[gSl,P6,slS,Dm hn,ht]
theorem W2:∀{l:List Sl},(∀s∈l,Fq VW s)->P4 (l.map P6)=some (l.map slS)
 | [],_=>by simp[P4]
 | s :: r,h=>by
  rw[map_cons,P4,Ae1 (h s (by simp)),W2 (λ x hx=>h x (by simp[hx]))];simp
theorem Ae2:∀{l:List Sl},(∀s∈l,Fq VW s)->gSs (l.map P6)=some (ssS l)
 | [],_=>by simp[gSs,ssS]
 | s :: r,h=>by
  rw[map_cons,gSs,Ae1 (h s (by simp)),Ae2 (λ x hx=>h x (by simp[hx])),ssS]
theorem Aw3{f:Px.Fn}(h:WfF VW f):gFn (ofFn f)=some ((if f.on then [111,110,32] else [102,110,32]) ++ fnS f):=by
 obtain⟨hn,hp,⟨c,hc⟩,hb,hd⟩:=h;have ht:gType f.result=true:=by unfold gType;rw[if_pos ⟨c,hc⟩]
 have e1:P4 (ofFn f).params=some (f.params.map slS):=W2 hp;have e2:gBlk (gSts (ofFn f).body []) [] (ofFn f).body.isEmpty=some (blkS (H9 f.body []) [] f.body.isEmpty):=by
  show gBlk (gSts (ofSts f.body) []) [] (ofSts f.body).isEmpty=_;rw[K4 f.body [] hb,Ia];rfl
 rw[gFn,if_pos (show gName (ofFn f).name=true/\gType (ofFn f).result=true from ⟨Dm hn,ht⟩),e1,e2];rfl
theorem Ae3:∀{l:List Px.Fn},(∀f∈l,WfF VW f)->gFs (l.map ofFn)=some (fsS l)
 | [],_=>by simp[gFs,fsS]
 | f :: r,h=>by
  rw[map_cons,gFs,Aw3 (h f (by simp)),Ae3 (λ x hx=>h x (by simp[hx])),fsS];simp
theorem Aw4{p:Pr}(h:WfP VW p):gPr (ofPr p)=some (prS p):=by
 obtain⟨_,hs,hf⟩:=h;have e1:gSs (ofPr p).states=some (ssS p.states):=Ae2 hs;have e2:gFs (ofPr p).fns=some (fsS p.fns):=Ae3 hf;rw[gPr,if_pos (show 0<=(ofPr p).version by show (0:Int)<=(p.version:Int);omega),e1,e2];rfl
end
section
open Go.RowKit
mutual
def IsGE(B:AS)(w:World):GE->List Value->Prop
 | .mk k o n t args,cs=>∃(x p:Int) (y:ByteArray) (sl:Value) (row:AR),cs=[iv k,iv o,iv n,.string ⟨t.toArray⟩,iv x,.string y,sl,iv p]/\SlRow B w 8 sl args.length row/\B6 B w args row
def B6(B:AS)(w:World):List GE->List Value->Prop
 | [],cs=>cs=[]
 | e :: r,cs=>∃c1 c2,cs=c1 ++ c2/\IsGE B w e c1/\B6 B w r c2
end
mutual
def IsGS(B:AS)(w:World):GS->List Value->Prop
 | .mk k n es b c,cs=>∃(x y p:Int) (f:Bool) (s1 s2 s3:Value) (r1 r2 r3:AR),cs=[iv k,.string ⟨n.toArray⟩,iv x,.bool f,iv y,s1,s2,s3,iv p]/\SlRow B w 8 s1 es.length r1/\B6 B w es r1/\SlRow B w 9 s2 b.length r2/\B5 B w b r2/\SlRow B w 9 s3 c.length r3/\B5 B w c r3
def B5(B:AS)(w:World):List GS->List Value->Prop
 | [],cs=>cs=[]
 | e :: r,cs=>∃c1 c2,cs=c1 ++ c2/\IsGS B w e c1/\B5 B w r c2
end
def Se(s:List UInt8 × List UInt8)(cs:AR):Prop:=∃p:Int,cs=[.string ⟨s.1.toArray⟩,.string ⟨s.2.toArray⟩,iv p]
def Ke:List (List UInt8 × List UInt8)->List Value->Prop
 | [],cs=>cs=[]
 | e :: r,cs=>∃c1 c2,cs=c1 ++ c2/\Se e c1/\Ke r c2
def I4(B:AS)(w:World)(l:List (List UInt8 × List UInt8))(v:Value):Prop:=∃row,SlRow B w 3 v l.length row/\Ke l row
def B7(B:AS)(w:World)(l:List GS)(v:Value):Prop:=∃row,SlRow B w 9 v l.length row/\B5 B w l row
def Hj(B:AS)(w:World)(f:GF)(cs:AR):Prop:=
 ∃(ps bs:Value) (p:Int),cs=[.string ⟨f.name.toArray⟩,.bool f.on,ps,.string ⟨f.result.toArray⟩,sZ,bs,iv p]/\I4 B w f.params ps/\B7 B w f.body bs
def Eh(B:AS)(w:World):List GF->List Value->Prop
 | [],cs=>cs=[]
 | e :: r,cs=>∃c1 c2,cs=c1 ++ c2/\Hj B w e c1/\Eh B w r c2
def L7(B:AS)(w:World)(l:List GF)(v:Value):Prop:=∃row,SlRow B w 7 v l.length row/\Eh B w l row
def P8(B:AS)(w:World)(p:GP)(v:Value):Prop:=∃ss fs,v=.agg #[iv p.version,ss,fs]/\I4 B w p.states ss/\L7 B w p.fns fs
mutual
theorem IsGE.since{B:AS}{w w':World}(s:Since B w w'):∀{e:GE} {cs:AR},IsGE B w e cs->IsGE B w' e cs
 | .mk k o n t args,cs,h=>by
  rw[IsGE] at h ⊢;obtain⟨x,p,y,sl,row,hc,hr,ha⟩:=h;exact⟨x,p,y,sl,row,hc,hr.since s,B6.since s ha⟩
theorem B6.since{B:AS}{w w':World}(s:Since B w w'):∀{l:List GE} {cs:AR},B6 B w l cs->B6 B w' l cs
 | [],cs,h=>by rw[B6] at h ⊢;exact h
 | e :: r,cs,h=>by
  rw[B6] at h ⊢;obtain⟨c1,c2,hc,h1,h2⟩:=h;exact⟨c1,c2,hc,IsGE.since s h1,B6.since s h2⟩
end
mutual
theorem IsGS.since{B:AS}{w w':World}(s:Since B w w'):∀{e:GS} {cs:AR},IsGS B w e cs->IsGS B w' e cs
 | .mk k n es b c,cs,h=>by
  rw[IsGS] at h ⊢;obtain⟨x,y,p,f,s1,s2,s3,r1,r2,r3,hc,a1,a2,a3,a4,a5,a6⟩:=h;exact⟨x,y,p,f,s1,s2,s3,r1,r2,r3,hc,a1.since s,a2.since s,a3.since s,B5.since s a4,a5.since s,B5.since s a6⟩
theorem B5.since{B:AS}{w w':World}(s:Since B w w'):∀{l:List GS} {cs:AR},B5 B w l cs->B5 B w' l cs
 | [],cs,h=>by rw[B5] at h ⊢;exact h
 | e :: r,cs,h=>by
  rw[B5] at h ⊢;obtain⟨c1,c2,hc,h1,h2⟩:=h;exact⟨c1,c2,hc,IsGS.since s h1,B5.since s h2⟩
end
theorem I4.since{B:AS}(s:Since B w w'){l:List (List UInt8 × List UInt8)}(h:I4 B w l v):I4 B w' l v:=by
 obtain⟨row,h1,h2⟩:=h;exact⟨row,h1.since s,h2⟩
theorem B7.since{B:AS}(s:Since B w w'){l:List GS}(h:B7 B w l v):B7 B w' l v:=by
 obtain⟨row,h1,h2⟩:=h;exact⟨row,h1.since s,h2.since s⟩
theorem Hj.since{B:AS}(s:Since B w w'){f:GF}(h:Hj B w f cs):Hj B w' f cs:=by
 obtain⟨ps,bs,p,h1,h2,h3⟩:=h;exact⟨ps,bs,p,h1,h2.since s,h3.since s⟩
theorem Eh.since{B:AS}{w w':World}(s:Since B w w'):∀{l:List GF} {cs:AR},Eh B w l cs->Eh B w' l cs
 | [],cs,h=>h
 | e :: r,cs,h=>by
  obtain⟨c1,c2,hc,h1,h2⟩:=h;exact⟨c1,c2,hc,h1.since s,Eh.since s h2⟩
theorem L7.since{B:AS}(s:Since B w w'){l:List GF}(h:L7 B w l v):L7 B w' l v:=by
 obtain⟨row,h1,h2⟩:=h;exact⟨row,h1.since s,h2.since s⟩
theorem P8.since{B:AS}(s:Since B w w'){p:GP}(h:P8 B w p v):P8 B w' p v:=by
 obtain⟨ss,fs,hv,h1,h2⟩:=h;exact⟨ss,fs,hv,h1.since s,h2.since s⟩
theorem IsGE.len{B:AS}{e:GE}(h:IsGE B w e cs):cs.length=8:=by
 cases e;rw[IsGE] at h;obtain⟨x,p,y,sl,row,hc,_⟩:=h;rw[hc];rfl
theorem IsGS.len{B:AS}{e:GS}(h:IsGS B w e cs):cs.length=9:=by
 cases e;rw[IsGS] at h;obtain⟨x,y,p,f,s1,s2,s3,r1,r2,r3,hc,_⟩:=h;rw[hc];rfl
theorem Se.len{e:List UInt8 × List UInt8}(h:Se e cs):cs.length=3:=by
 obtain⟨p,hc⟩:=h;rw[hc];rfl
theorem Hj.len{B:AS}{e:GF}(h:Hj B w e cs):cs.length=7:=by
 obtain⟨ps,bs,p,hc,_⟩:=h;rw[hc];rfl
theorem I5{α:Type}{sz:Nat}{P:α->List Value->Prop}{A:List α->List Value->Prop}(a3:∀{e cs},P e cs->cs.length=sz)(a0:∀{e r cs},A (e :: r) cs->∃c1 c2,cs=c1 ++ c2/\P e c1/\A r c2):∀{l:List α} {row:AR} {i:Nat} {e:α},A l row->l[i]?=some e->∃cs,P e cs/\∀j,j<sz->row[i*sz+j]?=cs[j]?
 | [],row,i,e,h,hi=>by simp at hi
 | a :: r,row,0,e,h,hi=>by
  obtain⟨c1,c2,hc,h1,h2⟩:=a0 h;simp at hi;subst hi;exact⟨c1,h1,λ j hj=>by rw[hc,List.getElem?_append_left (by have:=a3 h1;omega)];simp⟩
 | a :: r,row,i+1,e,h,hi=>by
  obtain⟨c1,c2,hc,h1,h2⟩:=a0 h;obtain⟨cs,k1,k2⟩:=I5 a3 a0 h2 (by simpa using hi);refine⟨cs,k1,λ j hj=>?_⟩;have hl:=a3 h1;have hm:(i+1)*sz=i*sz+sz:=by rw[Nat.add_mul,Nat.one_mul]
  rw[hc,List.getElem?_append_right (by omega),<-k2 j hj];congr 1;omega
theorem B6.cons{B:AS}{e:GE}{r:List GE}(h:B6 B w (e :: r) cs):∃c1 c2,cs=c1 ++ c2/\IsGE B w e c1/\B6 B w r c2:=by rw[B6] at h;exact h
theorem B5.cons{B:AS}{e:GS}{r:List GS}(h:B5 B w (e :: r) cs):∃c1 c2,cs=c1 ++ c2/\IsGS B w e c1/\B5 B w r c2:=by rw[B5] at h;exact h
theorem B6.get{B:AS}{l:List GE}{row:AR}{e:GE}(h:B6 B w l row)(hi:l[i]?=some e):∃cs,IsGE B w e cs/\∀j,j<8->row[i*8+j]?=cs[j]?:=
 I5 (P:=IsGE B w) (A:=B6 B w) IsGE.len B6.cons h hi
theorem B5.get{B:AS}{l:List GS}{row:AR}{e:GS}(h:B5 B w l row)(hi:l[i]?=some e):∃cs,IsGS B w e cs/\∀j,j<9->row[i*9+j]?=cs[j]?:=
 I5 (P:=IsGS B w) (A:=B5 B w) IsGS.len B5.cons h hi
theorem Ke.get{l:List (List UInt8 × List UInt8)}{row:AR}{e:List UInt8 × List UInt8}(h:Ke l row)(hi:l[i]?=some e):∃cs,Se e cs/\∀j,j<3->row[i*3+j]?=cs[j]?:=
 I5 (P:=Se) (A:=Ke) Se.len (λ h=>h) h hi
theorem Eh.get{B:AS}{l:List GF}{row:AR}{e:GF}(h:Eh B w l row)(hi:l[i]?=some e):∃cs,Hj B w e cs/\∀j,j<7->row[i*7+j]?=cs[j]?:=
 I5 (P:=Hj B w) (A:=Eh B w) Hj.len (λ h=>h) h hi
/- What was read lies so. -/
theorem I6(l:List Px.Ex):(Cb l).length=l.length:=by rw[N3];simp
theorem Ft(l:List Px.St):(ofSts l).length=l.length:=by rw[N4];simp
mutual
theorem IsEx.any{B:AS}{w:World}:∀{e:Px.Ex} {cs:AR},IsEx B w e cs->IsGE B w (Nb e) cs
 | .mk k o n t args p,cs,h=>by
  rw[IsEx] at h;rw[Nb,IsGE];obtain⟨sl,row,hc,hr,ha⟩:=h;exact⟨0,p,⟨#[]⟩,sl,row,hc,by rw[I6];exact hr,Ai.any ha⟩
theorem Ai.any{B:AS}{w:World}:∀{l:List Px.Ex} {cs:AR},Ai B w l cs->B6 B w (Cb l) cs
 | [],cs,h=>by rw[Ai] at h;rw[Cb,B6];exact h
 | e :: r,cs,h=>by
  rw[Ai] at h;rw[Cb,B6];obtain⟨c1,c2,hc,h1,h2⟩:=h;exact⟨c1,c2,hc,IsEx.any h1,Ai.any h2⟩
end
mutual
theorem IsSt.any{B:AS}{w:World}:∀{e:Px.St} {cs:AR},IsSt B w e cs->IsGS B w (P5 e) cs
 | .mk k n es b c p,cs,h=>by
  rw[IsSt] at h;rw[P5,IsGS];obtain⟨s1,s2,s3,r1,r2,r3,hc,a1,a2,a3,a4,a5,a6⟩:=h;exact⟨0,0,p,false,s1,s2,s3,r1,r2,r3,hc,by rw[I6];exact a1,a2.any,by rw[Ft];exact a3,As.any a4,by rw[Ft];exact a5,As.any a6⟩
theorem As.any{B:AS}{w:World}:∀{l:List Px.St} {cs:AR},As B w l cs->B5 B w (ofSts l) cs
 | [],cs,h=>by rw[As] at h;rw[ofSts,B5];exact h
 | e :: r,cs,h=>by
  rw[As] at h;rw[ofSts,B5];obtain⟨c1,c2,hc,h1,h2⟩:=h;exact⟨c1,c2,hc,IsSt.any h1,As.any h2⟩
end
theorem Kf:∀l:List Px.Sl,Ke (l.map P6) (l.flatMap Bp)
 | []=>rfl
 | s :: r=>⟨Bp s,r.flatMap Bp,by simp,⟨s.place,rfl⟩,Kf r⟩
theorem Ew.any{B:AS}{l:List Px.Sl}(h:Ew B w l v):I4 B w (l.map P6) v:=
 ⟨_,by rw[length_map];exact h,Kf l⟩
theorem Bn.any{B:AS}{l:List Px.St}(h:Bn B w l v):B7 B w (ofSts l) v:=by
 obtain⟨row,h1,h2⟩:=h;exact⟨row,by rw[Ft];exact h1,h2.any⟩
theorem Bx.any{B:AS}{w:World}:∀{l:List Px.Fn} {cs:AR},Bx B w l cs->Eh B w (l.map ofFn) cs
 | [],cs,h=>h
 | e :: r,cs,h=>by
  obtain⟨c1,c2,hc,⟨ps,bs,h1,h2,h3⟩,h5⟩:=h;exact⟨c1,c2,hc,⟨ps,bs,e.place,h1,h2.any,h3.any⟩,Bx.any h5⟩
theorem E2.any{B:AS}{p:Px.Pr}(h:E2 B w p v):P8 B w (ofPr p) v:=by
 obtain⟨ss,fs,hv,h1,row,h2,h3⟩:=h;exact⟨ss,fs,hv,h1.any,row,by rw[show (ofPr p).fns.length=p.fns.length from by simp[ofPr]];exact h2,h3.any⟩
end
section
open Go.RowKit
open Px (Ty IsTy)
abbrev betw:=@Vv.betw
abbrev pre_iff:=@Vv.pre_iff
abbrev suf_iff:=@Vv.suf_iff
abbrev betw_iff:=@Vv.betw_iff
abbrev elemT:=@Vv.elemT
abbrev tyF:=@Vv.tyF
abbrev betw_none:=@Vv.betw_none
theorem Ae4:∀(f:Nat) (s:AQ),Vv.tyF f s=true->IsTy f s
 | 0,s,h=>by simp[Vv.tyF] at h
 | f+1,s,h=>by
  rw[Vv.tyF] at h;split at h
  .rename_i h1;rcases h1 with rfl | rfl | rfl
   .exact⟨_,.int⟩
   .exact⟨_,.bool⟩
   .exact⟨_,.text⟩
  .rcases he:Vv.elemT s with _ | y
   .rw[he] at h;simp at h
   .rw[he] at h;obtain⟨c,hc⟩:=Ae4 f y h;unfold Vv.elemT at he;rcases h1:Vv.betw s [91] [93] with _ | y1
    .rw[h1] at he;rcases h2:Vv.betw s [123,105,110,116,58] [125] with _ | y2
     .rw[h2] at he;have e:=(betw_iff _ _ _ _).1 he;have t:=Ty.map (a:=[116,101,120,116]) (AJ rfl) hc;exact⟨_,by rw[e];simpa using t⟩
     .rw[h2] at he;simp at he;subst he;have e:=(betw_iff _ _ _ _).1 h2;have t:=Ty.map (a:=[105,110,116]) (AI rfl) hc;exact⟨_,by rw[e];simpa using t⟩
    .rw[h1] at he;simp at he;subst he;have e:=(betw_iff _ _ _ _).1 h1;exact⟨_,by rw[e];exact Ty.list hc⟩
theorem Aw5{k:Nat}{y:AQ}{c:List Lx.Tok}(h:Ty k y c):Vv.tyF k y=true:=by
 induction h with
 | int=>simp[Vv.tyF]
 | bool=>simp[Vv.tyF]
 | text=>simp[Vv.tyF]
 | @list k y c h ih=>
  have e:Vv.elemT ([91] ++ y ++ [93])=some y:=by
   unfold Vv.elemT;rw[(betw_iff _ _ _ y).2 rfl]
  rw[Vv.tyF,if_neg (by simp),e];exact ih
 | @map k a y c ha h ih=>
  have e:Vv.elemT ([123] ++ a ++ [58] ++ y ++ [125])=some y:=by
   unfold Vv.elemT;rw[betw_none _ _ _ (λ z=>by simp)];rcases ha with rfl | rfl
   .rw[(betw_iff _ _ _ y).2 (by simp)]
   .rw[betw_none _ _ _ (λ z=>by simp)];exact (betw_iff _ _ _ y).2 (by simp)
  rw[Vv.tyF,if_neg (by simp),e];exact ih
theorem W3(f:Nat)(s:AQ):Vv.tyF f s=true↔IsTy f s:=⟨Ae4 f s,λ⟨_,h⟩=>Aw5 h⟩
theorem gType_tyF(s:AQ):gType s=Vv.tyF 4 s:=by
 unfold gType;by_cases h:IsTy 4 s
 .rw[if_pos h,(W3 4 s).2 h]
 .rw[if_neg h];rcases ht:Vv.tyF 4 s with _ | _
  .rfl
  .exact absurd ((W3 4 s).1 ht) h
abbrev between_any:=@Vv.between_any
abbrev between_yes:=@Vv.between_yes
abbrev between_no:=@Vv.between_no
abbrev element_no:=@Vv.element_no
abbrev element_yes:=@Vv.element_yes
abbrev elem_len:=@Vv.elem_len
abbrev bytes_of:=@Vv.bytes_of
abbrev istype_any:=@Vv.istype_any
theorem stype_any(s:ByteArray)(w:World)(hs:s.size<=maxLen) :
  AA 59 #[.string s] w λ e w'=>e=.returned (.bool (gType s.data.toList))/\w'=w:=by
 have h:=istype_any 4 1 rfl s w hs;rw[<-gType_tyF] at h;go_enter func59,ntmps59;go_wp2_with (go_at_call 87;refine h.mono ?_;rintro e w' ⟨rfl,rfl⟩);go_ret;exact⟨rfl,rfl⟩
end
section
open Go.RowKit
open Px (opL opX dg)
theorem need_ok(w:World):AA 89 #[.bool true] w λ e w'=>e=.returned (.tuple #[])/\w'=w:=by
 go_enter func89,ntmps89;go_wp2
 go_end0
 exact⟨rfl,rfl⟩
theorem need_no(w:World):AA 89 #[.bool false] w λ e w'=>e=.panicked C7/\w'=w:=by
 go_enter func89,ntmps89;go_wp2;exact⟨rfl,rfl,rfl⟩
def Kg(w:World)(r:Option (List UInt8))(e:Ending)(w':World):Prop:=
 match r with
 | some x=>e=.returned (.string ⟨x.toArray⟩)/\Below w.heap.size w w'
 | none=>e=.panicked C7/\Below w.heap.size w w'
theorem Dn(x:AQ)(w:World)(hs:x.length<=maxLen):AA 91 #[.string ⟨x.toArray⟩] w λ e w'=>e=(if gName x then .returned (.string ⟨x.toArray⟩) else .panicked C7)/\w'=w:=by
 have h1:=Z6 ⟨x.toArray⟩ w (by show x.toArray.size<=_;simpa using hs);simp only[toList_toArray] at h1;have h2:=E3 x w;unfold gName;rcases hw:wordB x with _ | _
 .rw[hw] at h1;go_enter func91,ntmps91;go_wp2_with (go_at_call 125;refine h1.mono ?_;rintro e w' ⟨rfl,rfl⟩);go_wp2_with (go_at_call 89;refine (need_no _).mono ?_;rintro e w' ⟨rfl,rfl⟩);exact⟨rfl,rfl,rfl⟩
 .rw[hw] at h1;rcases hr:Px.reserved x with _ | _
  .rw[hr] at h2;go_enter func91,ntmps91;go_wp2_with (go_at_call 125;refine h1.mono ?_;rintro e w' ⟨rfl,rfl⟩);go_wp2_with (go_at_call 126;refine h2.mono ?_;rintro e w' ⟨rfl,rfl⟩);go_wp2_with (go_at_call 89;refine (need_ok _).mono ?_;rintro e w' ⟨rfl,rfl⟩);go_ret;exact⟨rfl,rfl⟩
  .rw[hr] at h2;go_enter func91,ntmps91;go_wp2_with (go_at_call 125;refine h1.mono ?_;rintro e w' ⟨rfl,rfl⟩);go_wp2_with (go_at_call 126;refine h2.mono ?_;rintro e w' ⟨rfl,rfl⟩);go_wp2_with (go_at_call 89;refine (need_no _).mono ?_;rintro e w' ⟨rfl,rfl⟩);exact⟨rfl,rfl,rfl⟩
theorem Jv(x:AQ)(w:World)(hs:x.length<=maxLen):AA 92 #[.string ⟨x.toArray⟩] w λ e w'=>e=(if gType x then .returned (.string ⟨x.toArray⟩) else .panicked C7)/\w'=w:=by
 have h1:=stype_any ⟨x.toArray⟩ w (by show x.toArray.size<=_;simpa using hs);simp only[toList_toArray] at h1;rcases hw:gType x with _ | _
 .rw[hw] at h1;go_enter func92,ntmps92;go_wp2_with (go_at_call 59;refine h1.mono ?_;rintro e w' ⟨rfl,rfl⟩);go_wp2_with (go_at_call 89;refine (need_no _).mono ?_;rintro e w' ⟨rfl,rfl⟩);exact⟨rfl,rfl,rfl⟩
 .rw[hw] at h1;go_enter func92,ntmps92;go_wp2_with (go_at_call 59;refine h1.mono ?_;rintro e w' ⟨rfl,rfl⟩);go_wp2_with (go_at_call 89;refine (need_ok _).mono ?_;rintro e w' ⟨rfl,rfl⟩);go_ret;exact⟨rfl,rfl⟩
theorem W5:∀(f u:Nat),u<f->Lib.decDigits u=Px.dgF f u
 | 0,u,h=>by omega
 | f+1,u,h=>by
  rw[Lib.decDigits,Px.dgF];split
  .rfl
  .rw[W5 f (u / 10) (by omega)]
theorem Ap5(n:Int)(h:0<=n):Lib.itoa n=dg n.toNat:=by
 rw[Lib.itoa,if_neg (by omega),dg];exact W5 _ _ (by omega)
theorem W6:∀(f u k:Nat),u<10 ^ k->1<=k->(Px.dgF f u).length<=k
 | 0,u,k,_,_=>by simp[Px.dgF]
 | f+1,u,k,h,hk=>by
  rw[Px.dgF];split
  .simpa using hk
  .rename_i h2;obtain⟨j,rfl⟩:∃j,k=j+1:=⟨k - 1,by omega⟩;have hj:1<=j:=by
    rcases Nat.eq_zero_or_pos j with rfl | hj
    .simp at h;omega
    .exact hj
   rw[Nat.pow_succ] at h;have:=W6 f (u / 10) j (by omega) hj;simp;omega
theorem Ae7(n:Nat)(h:n<=9223372036854775807):(dg n).length<=19:=W6 _ _ 19 (by omega) (by omega)
theorem L8{base:Nat}(n:Int)(w:World)(ht:Tb base w)(h1:n<=9223372036854775807):AA 61 #[iv n] w λ e w'=>Kg w (if 0<=n then some (dg n.toNat) else none) e w':=by
 by_cases h0:0<=n
 .rw[if_pos h0];have hI:=Tryz.strconv_Itoa n (by omega) h1 w ht.here;rw[Ap5 n h0] at hI;have hq:(decide (n ≥ 0))=true:=by simpa using h0
  go_enter func61,ntmps61;go_wp2_with (go_at_call 89;refine (need_ok _).mono ?_;rintro e w' ⟨rfl,rfl⟩);go_wp2_with (go_at_call 90;refine hI.mono ?_;rintro e w' ⟨rfl,k,os,rfl⟩);go_ret;exact⟨rfl,Lib.below_grow _ _ (AD _) k os⟩
 .rw[if_neg h0];have hq:(decide (n ≥ 0))=false:=by simpa using h0
  go_enter func61,ntmps61;go_wp2_with (go_at_call 89;refine (need_no _).mono ?_;rintro e w' ⟨rfl,rfl⟩);exact⟨rfl,rfl,AF _ _⟩
theorem Yh(n:Int)(w:World):AA 180 #[iv n] w λ e w'=>Kg w (if 0<=n/\n<=1 then some (if n=1 then [116,114,117,101] else [102,97,108,115,101]) else none) e w':=by
 by_cases h0:n=0
 .subst h0;go_enter func180,ntmps180;go_wp2_with (go_at_call 89;refine (need_ok _).mono ?_;rintro e w' ⟨rfl,rfl⟩);go_ret;exact⟨rfl,AF _ _⟩
 .by_cases h1:n=1
  .subst h1;go_enter func180,ntmps180;go_wp2_with (go_at_call 89;refine (need_ok _).mono ?_;rintro e w' ⟨rfl,rfl⟩);go_ret;exact⟨rfl,AF _ _⟩
  .rw[if_neg (by omega)];have q0:(n == 0)=false:=by simpa using h0
   have q1:(n == 1)=false:=by simpa using h1
   go_enter func180,ntmps180;go_wp2_with (go_at_call 89;refine (need_no _).mono ?_;rintro e w' ⟨rfl,rfl⟩);exact⟨rfl,rfl,AF _ _⟩
theorem Us(x:AQ)(w:World)(hs:x.length<=maxLen):AA 181 #[.string ⟨x.toArray⟩] w λ e w'=>Kg w (if plainB x then some (Fl x) else none) e w':=by
 have h1:=X4 ⟨x.toArray⟩ w (by show x.toArray.size<=_;simpa using hs);simp only[toList_toArray] at h1;rcases hw:plainB x with _ | _
 .rw[hw] at h1;go_enter func181,ntmps181;go_wp2_with (go_at_call 210;refine h1.mono ?_;rintro e w' ⟨rfl,rfl⟩);go_wp2_with (go_at_call 89;refine (need_no _).mono ?_;rintro e w' ⟨rfl,rfl⟩);exact⟨rfl,rfl,AF _ _⟩
 .rw[hw] at h1;have hl:x.length<=256:=by simp[plainB] at hw;exact hw.1
  have hQ:=X6 ⟨x.toArray⟩ w (by show x.toArray.size<=_;simp;omega);simp only[toList_toArray] at hQ;go_enter func181,ntmps181;go_wp2_with (go_at_call 210;refine h1.mono ?_;rintro e w' ⟨rfl,rfl⟩);go_wp2_with (go_at_call 89;refine (need_ok _).mono ?_;rintro e w' ⟨rfl,rfl⟩);go_wp2_with (go_at_call 211;refine hQ.mono ?_;rintro e w' ⟨rfl,hb⟩);go_ret;exact⟨rfl,hb⟩
theorem W7(o:Nat)(h1:1<=o)(h2:o<=13)(w:World):AA 209 #[iv o] w λ e w'=>e=.returned (.tuple #[.string ⟨(opX o).toArray⟩,iv (opL o - 1:Nat)])/\w'=w:=by
 rcases Px.op_cases h1 h2 with rfl | rfl | rfl | rfl | rfl | rfl | rfl | rfl | rfl | rfl | rfl | rfl | rfl
 all_goals
  go_enter func209,ntmps209;go_wp2
  go_ret2
  exact⟨rfl,rfl⟩
theorem Ap6{o:Int}(h:gL o=0):¬(1<=o/\o<=13):=by
 intro ⟨h1,h2⟩;unfold gL at h;rw[if_pos (by omega)] at h;have:=(Px.opL_pos (o:=o.toNat) (by omega) (by omega)).1;omega
theorem Ae8{o:Int}(h:gL o≠0):∃n:Nat,o=n/\1<=n/\n<=13:=by
 unfold gL at h;split at h
 .rename_i h0;refine⟨o.toNat,by omega,?_⟩;unfold opL at h
  (repeat' split at h) <;> omega
 .exact absurd rfl h
theorem Ap7(o:Int)(h:gL o=0)(w:World):AA 209 #[iv o] w λ e w'=>e=.panicked C7/\w'=w:=by
 have h0:=Ap6 h;have q1:(o == 1)=false:=by simp;omega
 have q2:(o == 2)=false:=by simp;omega
 have q3:(o == 3)=false:=by simp;omega
 have q4:(o == 4)=false:=by simp;omega
 have q5:(o == 5)=false:=by simp;omega
 have q6:(o == 6)=false:=by simp;omega
 have q7:(o == 7)=false:=by simp;omega
 have q8:(o == 8)=false:=by simp;omega
 have q9:(o == 9)=false:=by simp;omega
 have a5:(o == 10)=false:=by simp;omega
 have a4:(o == 11)=false:=by simp;omega
 have a0:(o == 12)=false:=by simp;omega
 have a3:(o == 13)=false:=by simp;omega
 clear h0 h;go_enter func209,ntmps209;go_wp2;exact⟨rfl,rfl,rfl⟩
def nArgs(k:Int)(n:Nat):Nat:=if k=7 then n else if k=12\/k=15 then 2 else if k=13\/k=14 then 1 else 0
abbrev geBox(k o n:Int)(t:AQ)(x:Int)(y:ByteArray)(sl:Value)(p:Int):Array Value:=#[iv k,iv o,iv n,.string ⟨t.toArray⟩,iv x,.string y,sl,iv p]
theorem Cg(k o n:Int)(t:AQ)(x:Int)(y:ByteArray)(ao:Option Addr)(len cap:Nat)(p:Int)(w:World) :
  AA 178 #[.agg (geBox k o n t x y (.slice ao len cap) p)] w λ e w'=>e=.returned (iv (nArgs k len))/\Below w.heap.size w w':=by
 have hb:Below w.heap.size w (w.alloc (.cells (geBox k o n t x y (.slice ao len cap) p) 48)):=(AF _ _).alloc (AD _) _;have hN:Aside (nArgs k len=_):=rfl;go_enter func178,ntmps178;go_wp2
 all_goals
  go_ret;refine⟨?_,hb⟩;simp only[beq_iff_eq,beq_eq_false_iff_ne,ne_eq] at *;unfold nArgs
  (repeat' split) <;> first | rfl | (exfalso;omega)
theorem N6(o n:Int)(t:AQ)(x:Int)(y:ByteArray)(ao:Option Addr)(len cap:Nat)(p:Int)(w:World) :
  AA 179 #[.agg (geBox 15 o n t x y (.slice ao len cap) p)] w λ e w'=>e=(if gL o=0 then .panicked C7 else .returned (iv (gL o - 1:Nat)))/\Below w.heap.size w w':=by
 have hb:Below w.heap.size w (w.alloc (.cells (geBox 15 o n t x y (.slice ao len cap) p) 48)):=(AF _ _).alloc (AD _) _;by_cases h:gL o=0
 .rw[if_pos h];have hO:=Ap7 o h;go_enter func179,ntmps179;go_wp2_with (go_at_call 209;refine (hO _).mono ?_;rintro e w' ⟨rfl,rfl⟩);exact⟨rfl,rfl,hb⟩
 .rw[if_neg h];obtain⟨o,rfl,h1,h2⟩:=Ae8 h;have hO:=W7 o h1 h2;rw[gL_nat];generalize hv:(opL o - 1:Nat)=q at *;generalize hx:(opX o).toArray=xx at *;go_enter func179,ntmps179;go_wp2_with (go_at_call 209;refine (hO _).mono ?_;rintro e w' ⟨rfl,rfl⟩);go_wp2;go_ret;exact⟨rfl,hb⟩
theorem Do(k o n:Int)(hk:k≠15)(t:AQ)(x:Int)(y:ByteArray)(ao:Option Addr)(len cap:Nat)(p:Int)(w:World) :
  AA 179 #[.agg (geBox k o n t x y (.slice ao len cap) p)] w λ e w'=>e=.returned (iv (if k=13\/k=14 then 5 else 6))/\Below w.heap.size w w':=by
 have hb:Below w.heap.size w (w.alloc (.cells (geBox k o n t x y (.slice ao len cap) p) 48)):=(AF _ _).alloc (AD _) _;have a0:(k == 15)=false:=by simpa using hk
 go_enter func179,ntmps179;go_wp2
 all_goals
  go_ret;refine⟨?_,hb⟩;simp only[beq_iff_eq,beq_eq_false_iff_ne,ne_eq] at *
  (repeat' split) <;> first | rfl | (exfalso;omega)
end
end Go.Proofs.YtpckmjfabiallaaGreatDoor
