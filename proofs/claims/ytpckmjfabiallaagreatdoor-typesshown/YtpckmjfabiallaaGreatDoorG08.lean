/- Texts of ours, joined. -/
import Derived.Test.YtpckmjfabiallaaGreatDoorG03
import Derived.Test.YtpckmjfabiallaaGreatDoorG04
import Derived.Lib.AppendIntMem
import Derived.Deep.CutRange
set_option linter.unusedVariables false
set_option linter.unusedSimpArgs false
set_option maxRecDepth 100000
set_option maxHeartbeats 16000000
namespace Go.Proofs.YtpckmjfabiallaaGreatDoor
variable{b i m:Nat}{v:Value}{w w' w1 w2:World}{x:List UInt8}{xs:List Value}
open List
open Tryz
section
def Sep(c:UInt8):Prop:=Lx.isPart c=false/\Lx.isDigit c=false/\c≠61/\c≠38/\c≠124
def Av2(a b:Option UInt8):Prop:=b=a\/∀c,b=some c->Sep c
theorem Wz{dot:Bool}{x:UInt8}{r l2:AQ}{k:Nat}{t:AQ}{n:Nat}(h:Lx.tokR dot (x :: r)=Lx.R.ok k t m n)
  (ht:l2.take n=(x :: r).take n) (hb:Av2 (x :: r)[n]? l2[n]?):Lx.tokR dot l2=Lx.R.ok k t m n:=by
 have hk:=B9 h;obtain⟨n',rfl⟩:∃n',n=n'+1:=⟨n - 1,by omega⟩
 match l2,ht,hb with
 | [],ht,_=>simp at ht
 | y :: r2,ht,hb=>
  have a0:=ht;simp only[take_succ_cons,List.cons.injEq] at a0;obtain⟨rfl,a0⟩:=a0;simp only[Lx.tokR] at h ⊢;split at h
  .rename_i hl;rw[if_pos hl];unfold Lx.nameR at h ⊢;split at h
   .rename_i h16;simp only[Lx.R.ok,Sum.inl.injEq,Prod.mk.injEq] at h;have e:(y :: r2).takeWhile Lx.isPart=(y :: r).takeWhile Lx.isPart:=by
     rw[<-h.2.2.2] at ht hb;refine Pm ht (λ c hc=>?_);rcases hb with hb | hb
     .exact Wm (hb ▸ hc)
     .exact (hb c hc).1
    rw[e,if_pos h16];simp only[Lx.R.ok,Sum.inl.injEq,Prod.mk.injEq];exact h
   .simp[Lx.R.ok,Lx.R.bad] at h
  .rename_i hl;rw[if_neg hl];split at h
   .rename_i hd;rw[if_pos hd];unfold Lx.numberR at h ⊢;split at h
    .simp[Lx.R.ok,Lx.R.bad] at h
    .rename_i h48;split at h
     .rename_i hv;simp only[Lx.R.ok,Sum.inl.injEq,Prod.mk.injEq] at h;have e:(y :: r2).takeWhile Lx.isDigit=(y :: r).takeWhile Lx.isDigit:=by
       rw[<-h.2.2.2] at ht hb;refine Pm ht (λ c hc=>?_);rcases hb with hb | hb
       .exact Wm (hb ▸ hc)
       .exact (hb c hc).2.1
      rw[e,if_neg h48,if_pos hv];simp only[Lx.R.ok,Sum.inl.injEq,Prod.mk.injEq];exact h
     .simp[Lx.R.ok,Lx.R.bad] at h
   .rename_i hd;rw[if_neg hd];split at h
    .rename_i h34;rw[if_pos h34];exact quote_local r.length r r2 1 [] k t m (n'+1) (AD _) h (by simpa using a0)
    .rename_i h34;rw[if_neg h34];unfold Lx.markR at h ⊢;split at h
     .simp[Lx.R.ok,Lx.R.bad] at h
     .rename_i hz;simp only[Lx.R.ok,Sum.inl.injEq,Prod.mk.injEq] at h;have e:Lx.markN dot (y :: r2)=Lx.markN dot (y :: r):=by
       obtain⟨_,_,_,hn⟩:=h;clear hl hd h34 hz;rcases h2:Lx.two (y :: r) with _ | _
       .have a4:Lx.markN dot (y :: r)=if Lx.one dot y then 1 else 0:=by unfold Lx.markN;rw[h2];rfl
        have a3:n'=0:=by rw[a4] at hn;split at hn <;> omega
        subst a3;have a5:Lx.two (y :: r2)=false:=by
         rcases hr2:r2 with _ | ⟨z,r3⟩
         .rfl
         .rcases hb with hb | hb
          .rw[hr2] at hb;rcases r with _ | ⟨z',r'⟩
           .simp at hb
           .simp at hb;subst hb;simpa [Lx.two] using h2
          .have:=hb z (by rw[hr2];rfl);simp[Lx.two,this.2.2.1,this.2.2.2.1,this.2.2.2.2]
        rw[a4];unfold Lx.markN;rw[a5];rfl
       .have a6:Lx.markN dot (y :: r)=2:=by unfold Lx.markN;rw[h2];rfl
        have a3:n'=1:=by omega
        subst a3;rcases r with _ | ⟨z',r'⟩
        .simp[Lx.two] at h2
        .rcases r2 with _ | ⟨z,r3⟩
         .simp at a0
         .simp at a0;subst a0;rw[a6];unfold Lx.markN;rw[show Lx.two (y :: z :: r3)=Lx.two (y :: z :: r') from rfl,h2];rfl
      rw[e,if_neg hz];simp only[Lx.R.ok,Sum.inl.injEq,Prod.mk.injEq];rw[<-h.2.2.2] at ht;rw[ht];exact h
end
section
open Px (TS TSim Ins)
theorem quote_plain:∀(N:Nat) (l:AQ) (o:Nat) (acc:AQ) (k:Nat) (t:AQ) (m n:Nat),l.length<=N->Lx.quoteR l o acc=Lx.R.ok k t m n->acc.all Lx.isPlain=true->plainB t=true
 | N,[],o,acc,k,t,m,n,_,h,_=>by simp[Lx.quoteR,Lx.R.bad,Lx.R.ok] at h
 | 0,c :: r,o,acc,k,t,m,n,hN,h,_=>by simp at hN
 | N+1,c :: r,o,acc,k,t,m,n,hN,h,ha=>by
  rw[Bc] at h;simp only[length_cons] at hN;split at h
  .split at h
   .rename_i h256;simp[Lx.R.ok] at h;rw[<-h.2.1];simp only[plainB,ha,Bool.and_true,decide_eq_true_eq];exact h256
   .simp[Lx.R.ok,Lx.R.bad] at h
  .split at h
   .split at h
    .simp[Lx.R.ok,Lx.R.bad] at h
    .split at h
     .rename_i d r' hd;refine quote_plain N r' (o+2) _ k t m n (by simp at hN;omega) h ?_;have:Lx.isPlain d=true:=by
       simp only[Lx.isEsc,Bool.or_eq_true,beq_iff_eq] at hd;rcases hd with rfl | rfl <;> decide
      simp[ha,this]
     .simp[Lx.R.ok,Lx.R.bad] at h
   .split at h
    .rename_i hp;exact quote_plain N r (o+1) _ k t m n (by omega) h (by simp[ha,hp])
    .simp[Lx.R.ok,Lx.R.bad] at h
theorem Lz{dot:Bool}{x:UInt8}{r:AQ}{k:Nat}{t:AQ}{n:Nat}(h:Lx.tokR dot (x :: r)=Lx.R.ok k t m n):(k=3/\m=0/\plainB t=true)\/(k≠3/\t=(x :: r).take n):=by
 simp only[Lx.tokR] at h;split at h
 .unfold Lx.nameR at h;split at h
  .simp only[Lx.R.ok,Sum.inl.injEq,Prod.mk.injEq] at h;obtain⟨rfl,rfl,_,rfl⟩:=h;exact AJ ⟨by decide,(Lx.tw_take _).symm⟩
  .simp[Lx.R.ok,Lx.R.bad] at h
 .split at h
  .unfold Lx.numberR at h;split at h
   .simp[Lx.R.ok,Lx.R.bad] at h
   .split at h
    .simp only[Lx.R.ok,Sum.inl.injEq,Prod.mk.injEq] at h;obtain⟨rfl,rfl,_,rfl⟩:=h;exact AJ ⟨by decide,(Lx.tw_take _).symm⟩
    .simp[Lx.R.ok,Lx.R.bad] at h
  .split at h
   .have hk:=Bm r.length r 1 [] k t m n (AD _) h;exact AI ⟨hk.1,hk.2.1,quote_plain r.length r 1 [] k t m n (AD _) h rfl⟩
   .unfold Lx.markR at h;split at h
    .simp[Lx.R.ok,Lx.R.bad] at h
    .simp only[Lx.R.ok,Sum.inl.injEq,Prod.mk.injEq] at h;obtain⟨rfl,rfl,_,rfl⟩:=h;exact AJ ⟨by decide,rfl⟩
def Et(k:Nat)(t:AQ):List UInt8:=if k=3 then Fl t else t
def Br(z:AQ):Prop:=∀c,z.head?=some c->Sep c
structure Wf(dot:Bool)(k:Nat)(t:AQ)(m:Nat):Prop where
 head:∃y r,Et k t=y :: r/\Lx.isBlank y=false/\y≠35
 reads:∀z,Br z->Lx.tokR dot (Et k t ++ z)=Lx.R.ok k t m (Et k t).length
theorem Ac6{dot:Bool}{x:UInt8}{r:AQ}{k:Nat}{t:AQ}{n:Nat}(h:Lx.tokR dot (x :: r)=Lx.R.ok k t m n)(hx:Lx.isBlank x=false/\x≠35):Wf dot k t m:=by
 have a3:=B9 h;rcases Lz h with⟨rfl,rfl,hp⟩ | ⟨hk,ht⟩
 .have hw:Et 3 t=34 :: (C3 t ++ [34]):=rfl;refine⟨⟨34,_,hw,by decide,by decide⟩,λ z hz=>?_⟩;simp only[plainB,Bool.and_eq_true,decide_eq_true_eq] at hp;have ht:Lx.tokR dot (34 :: (C3 t ++ [34]))=Lx.R.ok 3 t 0 (Et 3 t).length:=by
   have e:Lx.tokR dot (34 :: (C3 t ++ [34]))=Lx.quoteR (C3 t ++ [34]) 1 []:=by simp[Lx.tokR,Lx.isLetter,Lx.isDigit]
   rw[e,H0 t 1 [] hp.2];simp only[nil_append];rw[if_pos hp.1,hw];simp only[length_cons,length_append,length_nil];rw[show 1+(C3 t).length+1=(C3 t).length+(0+1)+1 by omega]
  refine Wz ht ?_ (AJ λ c hc=>?_)
  .rw[<-hw,take_append_of_le_length (Nat.le_refl _)]
  .rw[List.getElem?_append_right (Nat.le_refl _),Nat.sub_self] at hc;exact hz c (by rw[List.head?_eq_getElem?];exact hc)
 .have hw:Et k t=(x :: r).take n:=by unfold Et;rw[if_neg hk,ht]
  have a0:((x :: r).take n).length=n:=by simp only[length_take,length_cons];omega
  obtain⟨n',rfl⟩:∃n',n=n'+1:=⟨n - 1,by omega⟩;refine⟨⟨x,r.take n',by rw[hw];rfl,hx.1,hx.2⟩,λ z hz=>?_⟩;rw[hw,a0];refine Wz h ?_ (AJ λ c hc=>?_)
  .rw[take_append_of_le_length (by omega),take_take,Nat.min_self]
  .rw[List.getElem?_append_right (by omega),a0,Nat.sub_self] at hc;exact hz c (by rw[List.head?_eq_getElem?];exact hc)
theorem Av3(dot:Bool)(l:AQ):∀(N i c:Nat) (ts:List Lx.Tok),l.length - i<N->i<=l.length->Lx.lexGo dot (l.drop i) i c=.inl ts->∀t∈ts,(t.kind=5/\t.text=[]/\t.num=0)\/Wf dot t.kind t.text t.num:=by
 intro N;induction N with
 | zero=>intro i c ts hN;omega
 | succ N ih=>
  intro i c ts hN hi h;obtain⟨u,rest,rfl,a7,hc,a3⟩:=G1 h;have a5:=Lx.skip_le false (l.drop i);simp only[length_drop] at a5;rcases a3 with⟨hd,rfl,rfl⟩ | ⟨x,r,k,t,m,n,hd,ht,rfl,a0⟩
  .intro t ht;simp at ht;subst ht;exact AI ⟨rfl,rfl,rfl⟩
  .have a6:=B9 ht;have a4:=congrArg List.length hd;simp at a4;rw[drop_drop,<-Nat.add_assoc] at a0;have hw:=ih (i+Lx.skipF false (l.drop i)+n) (c+1) rest (by omega) (by omega) a0;intro t2 ht2;simp only[mem_cons] at ht2;rcases ht2 with rfl | ht2
   .exact AJ (Ac6 ht (Lx.skip_head false (l.drop i) x (by rw[hd];rfl)))
   .exact hw t2 ht2
theorem Yd{c:UInt8}(h:Lx.isBlank c=true\/c=35):Sep c:=Am6 h
theorem Ao6{dot:Bool}{g z:AQ}{k:Nat}{t:AQ}{c n:Nat}{y:UInt8}{r:AQ}(hg:∀Y,Lx.skipF false (g ++ Y)=g.length+Lx.skipF false Y)(hy:Lx.isBlank y=false/\y≠35)(ht:Lx.tokR dot (y :: r ++ z)=Lx.R.ok k t m (y :: r).length) :
  Lx.lexGo dot (g ++ (y :: r ++ z)) i c=if c<4096 then Lx.Out.pre [⟨k,t,m,i+g.length⟩] (Lx.lexGo dot z (i+g.length+(y :: r).length) (c+1)) else .inr (i+g.length,36):=by
 have hs:Lx.skipF false (g ++ (y :: r ++ z))=g.length:=by
  rw[hg,Lx.skip_none (λ c hc=>by simp at hc;subst hc;exact hy)];omega
 have hd:(g ++ (y :: r ++ z)).drop g.length=y :: (r ++ z):=by simp
 rw[Lx.lexGo_ok (by rw[hs];exact hd) ht (by simp),hs];have e:(g ++ (y :: r ++ z)).drop (g.length+(y :: r).length)=z:=by
  rw[<-drop_drop,hd,show y :: (r ++ z)=(y :: r) ++ z from rfl,drop_append_of_le_length (Nat.le_refl _),drop_length,nil_append]
 rw[e]
end
section
open Go.RowKit
structure FW(base b:Nat)(w w':World):Prop where
 below:Below base w w'
 kept:Lib.OthersKept 5 (some b) w w'
theorem FW.refl(base b:Nat)(w:World):FW base b w w:=⟨AF _ _,Lib.OthersKept.refl _ _ _⟩
abbrev AY:=@FW.refl
theorem FW.trans{base:Nat}(h:FW base b w w1)(k:FW base b w1 w2):FW base b w w2:=⟨h.below.trans k.below,h.kept.trans k.kept⟩
theorem FW.size{base:Nat}(h:FW base b w w1):w.heap.size<=w1.heap.size:=h.below.size
theorem FW.of_below{base:Nat}(h:Below w.heap.size w w1)(hb:base<=w.heap.size):FW base b w w1:=
 ⟨h.mono hb,λ k o hk _ _=>(h.block k (AB hk).1).trans hk⟩
theorem FW.alloc{base:Nat}(h:FW base b w w1)(hb:base<=w1.heap.size)(o:Obj):FW base b w (w1.alloc o):=⟨h.below.alloc hb o,h.kept.alloc o⟩
theorem FW.set{base:Nat}(h:FW base b w w1)(hb:base<=b)(j:Nat)(v:Value):FW base b w (w1.setCell ⟨b,j,none⟩ v):=⟨h.below.setCell (p:=⟨b,j,none⟩) hb v,h.kept.setCell ⟨b,j,none⟩ rfl v⟩
theorem FW.drewN{base:Nat}(h:FW base b w w1)(n:Nat):FW base b w (w1.drewN n):=⟨h.below.trans ⟨rfl,rfl,rfl,AD _,λ _ _=>rfl⟩,λ k o hk hb ho=>h.kept k o hk hb ho⟩
theorem FW.from_drewN{base:Nat}(n:Nat)(h:FW base b (w.drewN n) w1):FW base b w w1:=((AY base b w).drewN n).trans h
abbrev AZ:=@FW.from_drewN
theorem FW.grown{base:Nat}{n:Nat}(h:FW base b w w1)(hg:w1.grownBy w2 v.ownBlock)(a0:w1.ownsRowF base 5 1 v n xs)(hb:base<=w1.heap.size):FW base b w w2:=by
 refine⟨h.below.grown hg hb (λ k hk=>(a0.lt k hk).1),h.kept.grown hg λ g hgr=>?_⟩;rcases a0.2 with⟨rfl,_⟩ | ⟨g',cap,cur,fz,rfl,_,a3,_⟩
 .simp[Value.ownBlock] at hgr
 .simp[Value.ownBlock] at hgr;subst hgr;exact⟨cur,fz,a3⟩
theorem FW.block{base:Nat}(h:FW base b w w1){k:Nat}{cs:Array Value}{t:TypeId}{fz:Nat × Nat}(hk:w.heap[k]?=some (.cells cs t fz))(hb:k≠b)(ht:t≠5):w1.heap[k]?=some (.cells cs t fz):=
 h.kept k _ hk (by simpa using hb) (λ c f e=>ht (by injection e))
theorem FW.since{base:Nat}(h:FW base b w w1):Since (λ k=>k<base) w w1:=⟨h.size,λ k h1 _=>h.below.block k h1⟩
abbrev An7(p v:Value)(tabs:Nat):Obj:=.cells #[p,v,iv tabs] 84 (0,0)
abbrev Bo(b:Nat):Value:=pt b 0
def Tb(base:Nat)(w:World):Prop:=Lib.TabBelow prog base w "internal/strconv.uint64pow10" .u64 Lib.pow10Tab
theorem Tb.mono{base:Nat}(h:Tb base w)(k:Below base w w'):Tb base w':=λ w2 h2=>h w2 (k.trans h2)
structure Wr(base b:Nat)(l:AQ)(tabs:Nat)(w:World):Prop where
 le:base<=b
 tab:Tb base w
 blk:∃p v,(p=.pointer none\/p=Bo b)/\w.heap[b]?=some (An7 p v tabs)/\w.ownsRowF base 5 1 v l.length (Lib.byteCells l)
theorem Wr.lt{base:Nat}{l:AQ}{tabs:Nat}(h:Wr base b l tabs w):b<w.heap.size:=by
 obtain⟨_,_,p,v,_,hb,_⟩:=h;exact (AB hb).1
theorem Wr.base{base b:Nat}{l:AQ}{tabs:Nat}{w:World}(h:Wr base b l tabs w):base<=w.heap.size:=by have:=h.le;have:=h.lt;omega
theorem Fp{base n:Nat}{p:Value}{tabs:Nat}(hb:w.heap[b]?=some (An7 p v tabs)){v':Value}(a0:w.ownsRowF base 5 1 v' n xs):v'.ownBlock≠some b:=by
 rcases a0.2 with⟨rfl,_⟩ | ⟨g',cap,cur,fz,rfl,_,a3,_⟩
 .simp[Value.ownBlock]
 .simp only[Value.ownBlock];intro e;simp only[Option.some.injEq] at e;subst e;rw[hb] at a3;simp at a3
theorem Dj{base n:Nat}(a0:w.ownsRowF base 5 1 v n xs)(h:∀k,v.ownBlock=some k->w'.heap[k]?=w.heap[k]?):w'.ownsRowF base 5 1 v n xs:=by
 obtain⟨h1,h2⟩:=a0;refine⟨h1,?_⟩;rcases h2 with h2 | ⟨g',cap,cur,fz,rfl,r1,a3,r⟩
 .exact AI h2
 .exact AJ ⟨g',cap,cur,fz,rfl,r1,(h g' (by simp[Value.ownBlock])).trans a3,r⟩
theorem Wr.call{base:Nat}{l:AQ}{tabs:Nat}(h:Wr base b l tabs w)(k:Below w.heap.size w w'):Wr base b l tabs w':=by
 have a0:=h.lt;obtain⟨h0,ht,p,v,hp,hb,ho⟩:=h;exact⟨h0,ht.mono (k.mono (by omega)),p,v,hp,(k.block b a0).trans hb,Dj ho λ g hg=>k.block g (ho.lt g hg).2⟩
theorem Wr.alloc{base:Nat}{l:AQ}{tabs:Nat}(h:Wr base b l tabs w)(o:Obj):Wr base b l tabs (w.alloc o):=h.call ((AF _ _).alloc (AD _) o)
theorem Wr.drew{base:Nat}{l:AQ}{tabs:Nat}(h:Wr base b l tabs w):Wr base b l tabs w.drew:=h.call ⟨rfl,rfl,rfl,AD _,λ _ _=>rfl⟩
theorem Wr.tabs{base b:Nat}{l:AQ}{tabs:Nat}{w:World}(h:Wr base b l tabs w)(n:Nat):Wr base b l n (w.setCell ⟨b,2,none⟩ (iv n)):=by
 have a0:=h.lt;obtain⟨h0,ht,p,v,hp,hb,ho⟩:=h;refine⟨h0,ht.mono ((AF _ _).setCell (p:=⟨b,2,none⟩) h0 _),p,v,hp,by simp[World.setCell,Array.getElem?_modify,hb],Dj ho λ g hg=>?_⟩;exact AG _ _ _ _ (λ e=>Fp hb ho (by rw[hg,e]))
theorem Wr.cells{base:Nat}{l:AQ}{tabs:Nat}(h:Wr base b l tabs w):w.cell? ⟨b,2,none⟩=some (iv tabs)/\w.frozen? ⟨b,2,none⟩=false:=by
 obtain⟨_,_,p,v,_,hb,_⟩:=h;obtain⟨_,_,h2,_,_,h5⟩:=Af hb;exact⟨h2,h5⟩
theorem Pp(b:Nat)(w:World)(h0:w.cell? ⟨b,0,none⟩=some (.pointer none))(a3:w.shape? b=some (84,3))(a5:w.frozen? ⟨b,0,none⟩=false) :
  AA 123 #[Bo b] w λ e w'=>e=.returned (.tuple #[])/\w'=w.setCell ⟨b,0,none⟩ (Bo b):=by
 obtain⟨j,hj,a4⟩:=Option.map_eq_some_iff.1 (show (prog.info? 82).map (·.size)=some 2 by kernel_rfl)
 have a0:liesAt prog prog.depth 84 (3 / prog.cellsOf 84) 0 82 1=true:=by kernel_rfl
 go_enter func123,ntmps123;go_wp2;rw[Lib.run_to_unsafe w ⟨b,0,none⟩ underlying80 underlying165 hj (by rw[a4];decide) a3 (Nat.zero_lt_succ 2)];simp only[Result.andThen];rw[Oper.upon_value];go_wp2;rw[run_callFunc_extern func151 (by kernel_rfl) (by kernel_rfl) (by kernel_rfl) (e:=Extern.AbiNoEscape.same) (by kernel_rfl)];rw[Lib.run_noEscape];simp only[Result.andThen];rw[Oper.upon_value];go_wp2;rw[Lib.run_from_unsafe w ⟨b,0,none⟩ underlying165 underlying80 hj a3 a0];simp only[Result.andThen];rw[Oper.upon_value];go_wp2
 go_end0
 exact⟨rfl,rfl⟩
theorem Ug{base:Nat}{l:AQ}{tabs:Nat}(h:Wr base b l tabs w) :
  AA 123 #[Bo b] w λ e w'=>e=.returned (.tuple #[])/\(∃v,w'.heap[b]?=some (An7 (Bo b) v tabs)/\w'.ownsRowF base 5 1 v l.length (Lib.byteCells l))/\FW base b w w':=by
 obtain⟨h0,ht,p,v,hp,hb,ho⟩:=h;rcases hp with rfl | rfl
 .obtain⟨c0,_,_,f0,_,_⟩:=Af hb;refine (Pp b w c0 (by simp[World.shape?,hb]) f0).mono ?_;rintro e w' ⟨rfl,rfl⟩;refine⟨rfl,⟨v,by simp[World.setCell,Array.getElem?_modify,hb],Dj ho λ g hg=>?_⟩,(AY _ _ _).set h0 0 _⟩;exact AG _ _ _ _ (λ e=>Fp hb ho (by rw[hg,e]))
 .obtain⟨c0,_,_,f0,_,_⟩:=Af hb;refine (Le b w c0).mono ?_;rintro e w' ⟨rfl,rfl⟩;exact⟨rfl,⟨v,hb,ho⟩,AY _ _ _⟩
theorem Ls(s:ByteArray):Lib.strCells s=Lib.byteCells s.data.toList:=by
 simp[Lib.strCells,Lib.byteCells]
theorem M9(a c:AQ):Lib.byteCells (a ++ c)=Lib.byteCells a ++ Lib.byteCells c:=by simp[Lib.byteCells]
theorem fwrite_any{base:Nat}{l:AQ}{tabs:Nat}(h:Wr base b l tabs w)(s:ByteArray)(ad:l.length+s.size<=140737488355328) :
  AA 88 #[Bo b,.string s] w λ e w'=>e=.returned (.tuple #[iv s.size,.nilIface])/\Wr base b (l ++ s.data.toList) tabs w'/\FW base b w w':=by
 obtain⟨i0,hi,hz⟩:=Option.map_eq_some_iff.1 (show (prog.info? 5).map (λ i=>(i.zero,i.size,i.bytes))=some (some (.int .u8 0),1,1) by kernel_rfl);simp only[Prod.mk.injEq] at hz;obtain⟨aa,ab,ae⟩:=hz;have a8:=h.le;have a6:=h.base;have a4:=h.tab;go_enter func88,ntmps88;go_wp2_with (go_at_call 123;refine (Ug h).mono ?_);rintro e w1 ⟨rfl,⟨v,a3,a0⟩,a7⟩;have af:=a7.size;obtain⟨c0,c1,c2,_,_,_⟩:=Af a3;go_wp2_with (at_builtin;refine Lib.wpList_append_own_stringF _ rfl _ _ 78 9 rfl base 5 i0 underlying78 underlying9 hi aa ab ae _ _ _ rfl a0 s rfl ?c3 ?c4 ?c5 ?_)
 case c3=>unfold maxLen;omega
 case c4=>omega
 case c5=>omega
 intro v' w2 hown' hgrow _;have a9:b<w1.heap.size:=(AB a3).1;have a5:w2.heap[b]?=some (An7 (Bo b) v tabs):=by
  rw[hgrow.block b a9 (λ e=>Fp a3 a0 e.symm)];exact a3
 obtain⟨d0,d1,d2,_,f1,_⟩:=Af a5;obtain⟨ao,n',cap,rfl⟩:∃ao n' cap,v'=.slice ao n' cap:=by
  rcases hown'.2 with⟨hv,_⟩ | ⟨g,cap,cur,fz,hv,_⟩
  .exact⟨_,_,_,hv⟩
  .exact⟨_,_,_,hv⟩
 go_wp2
 go_ret2
 have hF:=(a7.grown hgrow a0 (by omega)).set a8 1 (.slice ao n' cap);refine⟨rfl,⟨a8,a4.mono hF.below,_,_,AJ rfl,by simp[World.setCell,Array.getElem?_modify,a5];rfl,?_⟩,hF⟩;rw[M9,<-Ls,length_append,F9];exact Dj hown' λ g hg=>AG _ _ _ _ (λ e=>Fp a5 hown' (by rw[hg,e]))
theorem Ab0{base:Nat}{l:AQ}{tabs:Nat}(h:Wr base b l tabs w) :
  AA 64 #[Bo b] w λ e w'=>e=.returned (iv l.length)/\w'=w:=by
 obtain⟨h0,ht,p,v,hp,hb,ho⟩:=h;obtain⟨ao,cap,rfl⟩:∃ao cap,v=.slice ao l.length cap:=by
  rcases ho.2 with⟨hv,h0⟩ | ⟨g,cap,cur,fz,hv,_⟩
  .exact⟨none,0,by rw[hv,h0]⟩
  .exact⟨_,_,hv⟩
 obtain⟨_,c1,_,_,_,_⟩:=Af hb;go_enter func64,ntmps64;go_wp2;go_ret;exact⟨rfl,rfl⟩
def Bt(l x l':AQ):Prop:=l'=l ++ x\/(16384<l'.length/\16384<(l ++ x).length)
theorem Bt.refl(l:AQ):Bt l [] l:=AI (by simp)
theorem Bt.trans{l l1 y l2:AQ}(h:Bt l x l1)(k:Bt l1 y l2):Bt l (x ++ y) l2:=by
 rcases h with rfl | ⟨h1,h2⟩
 .rcases k with rfl | ⟨k1,k2⟩
  .exact AI (by simp)
  .exact AJ ⟨k1,by simpa using k2⟩
 .rcases k with rfl | ⟨k1,k2⟩
  .exact AJ ⟨by simp;omega,by simp at h2 ⊢;omega⟩
  .exact AJ ⟨k1,by simp at h2 ⊢;omega⟩
theorem Bt.over{l:AQ}(h:Bt [] x l):(16384<l.length↔16384<x.length)/\(¬16384<l.length->l=x):=by
 rcases h with rfl | ⟨h1,h2⟩
 .simp
 .simp at h2;exact⟨⟨λ _=>h2,λ _=>h1⟩,λ h=>absurd h1 h⟩
def Yb(l s:AQ):List UInt8:=if 16384<l.length then l else l ++ s
theorem wrote_put(l s:AQ):Bt l s (Yb l s):=by
 unfold Yb;split
 .rename_i h;exact AJ ⟨h,by simp;omega⟩
 .exact AI rfl
abbrev C7:List PanicEntry:=[{ v:=.iface 107 (.agg #[iv 11]),recovered:=false }]
def WPost(base b:Nat)(l:AQ)(tabs:Nat)(w:World)(r:Option (List UInt8))(e:Ending)(w':World):Prop:=
 match r with
 | some x=>e=.returned (.tuple #[])/\∃l',Bt l x l'/\Wr base b l' tabs w'/\FW base b w w'
 | none=>e=.panicked C7/\∃l' tabs',Wr base b l' tabs' w'/\FW base b w w'
theorem E9{base:Nat}{l:AQ}{tabs:Nat}(h:Wr base b l tabs w) :
  AA 36 #[Bo b] w λ e w'=>e=.returned (.bool (decide (16384<l.length)))/\w'=w:=by
 have a0:=h.lt;go_enter func36,ntmps36;go_wp2_with (go_at_call 64;refine (Ab0 h).mono ?_;rintro e w' ⟨rfl,rfl⟩);go_ret;refine⟨?_,rfl⟩;rw[show decide ((16384:Int)<(l.length:Int))=decide (16384<l.length) from decide_eq_decide.2 (by omega)];rfl
theorem An8{base:Nat}{l:AQ}{tabs:Nat}(h:Wr base b l tabs w)(s:ByteArray)(hs:s.size<=1099511627776) :
  AA 60 #[Bo b,.string s] w λ e w'=>e=.returned (.tuple #[])/\Wr base b (Yb l s.data.toList) tabs w'/\FW base b w w':=by
 have a3:=h.lt;unfold Yb;by_cases hov:16384<l.length
 .have hO:=E9 h;rw[if_pos hov];simp only[hov,decide_true] at hO;go_enter func60,ntmps60;go_wp2_with (go_at_call 36;refine hO.mono ?_;rintro e w' ⟨rfl,rfl⟩)
  go_end0
  exact⟨rfl,h,AY _ _ _⟩
 .have hO:=E9 h;rw[if_neg hov];simp only[hov,decide_false] at hO;go_enter func60,ntmps60;go_wp2_with (go_at_call 36;refine hO.mono ?_;rintro e w' ⟨rfl,rfl⟩);go_wp2_with (go_at_call 88;refine (fwrite_any h s (by omega)).mono ?_;rintro e w' ⟨rfl,h',a0⟩)
  go_end0
  exact⟨rfl,h',a0⟩
theorem Ab1{base:Nat}{l:AQ}{tabs:Nat}(h:Wr base b l tabs w)(s:ByteArray)(hs:s.size<=1099511627776)(u:FrameMode) :
  CallsD prog 60 #[Bo b,.string s] u w λ e u' w'=>u'=u/\e=.returned (.tuple #[])/\Wr base b (Yb l s.data.toList) tabs w'/\FW base b w w':=by
 have a3:=h.lt;unfold Yb;by_cases hov:16384<l.length
 .have hO:=E9 h;rw[if_pos hov];simp only[hov,decide_true] at hO
  go_enter_d func60,ntmps60
  go_wp2_with (go_at_call 36;refine hO.mono ?_;rintro e w' ⟨rfl,rfl⟩)
  go_end0
  exact⟨rfl,h,AY _ _ _⟩
 .have hO:=E9 h;rw[if_neg hov];simp only[hov,decide_false] at hO
  go_enter_d func60,ntmps60
  go_wp2_with (go_at_call 36;refine hO.mono ?_;rintro e w' ⟨rfl,rfl⟩)
  go_wp2_with (go_at_call 88;refine (fwrite_any h s (by omega)).mono ?_;rintro e w' ⟨rfl,h',a0⟩)
  go_end0
  exact⟨rfl,h',a0⟩
theorem put_l{base:Nat}{l:AQ}{tabs:Nat}(h:Wr base b l tabs w)(x:AQ)(hs:x.length<=1099511627776) :
  AA 60 #[Bo b,.string ⟨x.toArray⟩] w λ e w'=>e=.returned (.tuple #[])/\∃l',Bt l x l'/\Wr base b l' tabs w'/\FW base b w w':=by
 refine (An8 h ⟨x.toArray⟩ (by show x.toArray.size<=_;simpa using hs)).mono ?_;rintro e w' ⟨rfl,h',hf⟩;exact⟨rfl,_,wrote_put l x,by simpa using h',hf⟩
theorem Ab2{base:Nat}{l:AQ}{tabs:Nat}(h:Wr base b l tabs w)(x:AQ)(hs:x.length<=1099511627776)(u:FrameMode) :
  CallsD prog 60 #[Bo b,.string ⟨x.toArray⟩] u w λ e u' w'=>u'=u/\e=.returned (.tuple #[])/\∃l',Bt l x l'/\Wr base b l' tabs w'/\FW base b w w':=by
 refine (Ab1 h ⟨x.toArray⟩ (by show x.toArray.size<=_;simpa using hs) u).mono ?_;rintro e u' w' ⟨rfl,rfl,h',hf⟩;exact⟨rfl,rfl,_,wrote_put l x,by simpa using h',hf⟩
theorem Yc{l:AQ}{k:Nat}{l1 l2:AQ}(h:Bt l (10 :: List.replicate k 9) l1)(k1:Bt l1 [9] l2):Bt l (10 :: List.replicate (k+1) 9) l2:=by
 have:=h.trans k1;rw[replicate_succ'];simpa using this
theorem Uh{l:AQ}{k n:Nat}{l1:AQ}(h:Bt l (10 :: List.replicate k 9) l1)(hk:k<=n)(ho:16384<l1.length):Bt l (10 :: List.replicate n 9) l1:=by
 right;refine⟨ho,?_⟩;rcases h with rfl | ⟨_,h2⟩
 .simp at ho ⊢;omega
 .simp at h2 ⊢;omega
theorem Ro{base:Nat}{l:AQ}{tabs:Nat}(h:Wr base b l tabs w)(ht:tabs<=1099511627776) :
  AA 127 #[Bo b] w λ e w'=>e=.returned (.tuple #[])/\∃l',Bt l (10 :: List.replicate tabs 9) l'/\Wr base b l' tabs w'/\FW base b w w':=by
 have hP:=put_l h [10] (by simp);go_enter func127,ntmps127;go_wp2_with (go_at_call 60;refine hP.mono ?_;rintro e w1 ⟨rfl,l1,a5,h1,a0⟩);clear hP
 go_loopg [2] tabs (λ g i wr=>∃(k:Nat) (lk:AQ),k<=tabs/\g=tabs - k/\i=iv k/\Bt l (10 :: List.replicate k 9) lk/\Wr base b lk tabs wr/\FW base b w wr)
 case atStart=>exact⟨0,l1,AO _,rfl,rfl,by simpa using a5,h1,a0⟩
 case round=>
  clear h1 a0 a5 h;obtain⟨k,lk,hk,rfl,rfl,a3,h1,a0⟩:=hrel;have a9:=h1.lt;obtain⟨c2,f2⟩:=h1.cells;have hO:=E9 h1;by_cases hlt2:k<tabs
  .have a4:(k:Int)<(tabs:Int):=by omega
   by_cases hov:16384<lk.length
   .simp only[hov,decide_true] at hO;go_wp2_with (go_at_call 36;refine hO.mono ?_;rintro e w' ⟨rfl,rfl⟩)
    go_end0
    exact⟨rfl,lk,Uh a3 hk hov,h1,a0⟩
   .simp only[hov,decide_false] at hO;have hP:=put_l h1 [9] (by simp);go_wp2_with (go_at_call 36;refine hO.mono ?_;rintro e w' ⟨rfl,rfl⟩);go_wp2_with (go_at_call 60;refine hP.mono ?_;rintro e w2 ⟨rfl,l2,a6,h2,a8⟩);go_wp2;go_roundg (tabs - (k+1))
    case measure=>omega
    case rel=>exact⟨k+1,l2,by omega,rfl,by go_num,Yc a3 a6,h2,a0.trans a8⟩
  .have a4:¬(k:Int)<(tabs:Int):=by omega
   have a7:k=tabs:=by omega
   go_wp2
   go_end0
   exact⟨rfl,lk,by rw[<-a7];exact a3,h1,a0⟩
theorem Sr{base:Nat}{l:AQ}{tabs:Nat}(h:Wr base b l tabs w)(h0:l≠[]) :
  AA 37 #[Bo b] w λ e w'=>e=.returned (.string ⟨l.toArray⟩)/\FW base b w w':=by
 obtain⟨ag,_,p,v,hp,a4,a0⟩:=h;have a5:l.length≠0:=by simpa using h0
 obtain⟨g,cap,cur,fz,rfl,a8,hg,aa,af,a6,a9,a3⟩:∃g cap cur fz,v=sL g 0 l.length cap/\base<=g/\w.heap[g]?=some (.cells cur 5 fz)/\fz.2<=l.length*1/\l.length<=cap/\cap<=maxLen/\cur.size=cap*1/\cur.toList.take (l.length*1)=Lib.byteCells l:=by
  rcases a0.2 with⟨_,hz⟩ | ⟨g,cap,cur,fz,hv,r⟩
  .exact absurd hz a5
  .exact⟨g,cap,cur,fz,hv,r⟩
 have ad:b<w.heap.size:=(AB a4).1;have c1:w.drew.cell? ⟨b,1,none⟩=some (sL g 0 l.length cap):=(Af (w:=w.drew) a4).2.1;have ae:(Builtin.unsafeSliceData_ #[78] 111 #[sL g 0 l.length cap]).run prog w.drew=.ok (pt g 0) w.drew:=
  Lib.run_unsafeSliceData_row _ _ _ _ _ _ (by omega)
 have ab:(Builtin.unsafeString_ #[111,3] 9 #[pt g 0,iv l.length]).run prog w.drew=.ok (.string ⟨l.toArray⟩) (w.drew.freeze ⟨g,0,none⟩ l.length):=by
  refine Lib.run_unsafeString_row w.drew 111 3 9 5 underlying111 (by kernel_rfl) g cur.size (by have a7:w.drew.heap[g]?=some (.cells cur 5 fz):=hg;simp[World.shape?,a7]) l h0 (by omega) (by unfold maxLen at a6;omega) ?_;intro j x hx;have:=a0.cells (g:=g) rfl j (.int .u8 x.toNat) (by simp[Lib.byteCells,hx]);exact this
 have hF:FW base b w (w.drew.freeze ⟨g,0,none⟩ l.length):=
  ⟨Lib.below_freeze (Below.drew (AF base w)) (p:=⟨g,0,none⟩) a8 _,Lib.OthersKept.freeze (Lib.OthersKept.drew (Lib.OthersKept.refl _ _ _)) ⟨g,0,none⟩ _ ⟨cur,fz,hg⟩⟩
 clear a0 a3 a9 aa;go_enter func37,ntmps37;go_wp2
 go_region
 all_goals
  go_wp2;go_ret;exact⟨rfl,hF⟩
end
section
open Px (TS TSim Ins)
theorem Ai4(dot:Bool)(l:AQ):∀(N i c:Nat) (ts:List Lx.Tok),l.length - i<N->i<=l.length->Lx.lexGo dot (l.drop i) i c=.inl ts->∀t∈ts,i<=t.place/\t.place<=l.length:=by
 intro N;induction N with
 | zero=>intro i c ts hN;omega
 | succ N ih=>
  intro i c ts hN hi h;obtain⟨u,rest,rfl,a7,hc,a3⟩:=G1 h;have a5:=Lx.skip_le false (l.drop i);simp only[length_drop] at a5;rcases a3 with⟨hd,rfl,rfl⟩ | ⟨x,r,k,t,m,n,hd,ht,rfl,a0⟩
  .intro t ht;simp at ht;subst ht;exact⟨by simp,by show i+_<=_;omega⟩
  .have a6:=B9 ht;have a4:=congrArg List.length hd;simp at a4;rw[drop_drop,<-Nat.add_assoc] at a0;intro t2 ht2;simp only[mem_cons] at ht2;rcases ht2 with rfl | ht2
   .exact⟨by simp,by show i+_<=_;omega⟩
   .have:=ih (i+Lx.skipF false (l.drop i)+n) (c+1) rest (by omega) (by omega) a0 t2 ht2;omega
end
section
theorem J3:∀(N:Nat) (l:AQ) (o:Nat) (acc:AQ) (a er:Nat),l.length<=N->Lx.quoteR l o acc=Lx.R.bad a er->a<=o+l.length
 | N,[],o,acc,a,er,_,h=>by simp[Lx.quoteR,Lx.R.bad] at h;omega
 | 0,c :: r,o,acc,a,er,hN,h=>by simp at hN
 | N+1,c :: r,o,acc,a,er,hN,h=>by
  rw[Bc] at h;simp only[length_cons] at hN ⊢;split at h
  .split at h
   .simp[Lx.R.ok,Lx.R.bad] at h
   .simp[Lx.R.bad] at h;omega
  .split at h
   .split at h
    .simp[Lx.R.bad] at h;omega
    .split at h
     .rename_i d r' _;have:=J3 N r' (o+2) _ a er (by simp at hN;omega) h;simp only[length_cons];omega
     .simp[Lx.R.bad] at h;omega
   .split at h
    .have:=J3 N r (o+1) _ a er (by omega) h;omega
    .simp[Lx.R.bad] at h;omega
theorem Ar1{dot:Bool}{l:AQ}{a er:Nat}(h:Lx.tokR dot l=Lx.R.bad a er):a<=l.length:=by
 match l,h with
 | [],h=>simp[Lx.tokR,Lx.R.ok,Lx.R.bad] at h
 | c :: r,h=>
  simp only[Lx.tokR] at h;split at h
  .unfold Lx.nameR at h;split at h
   .simp[Lx.R.ok,Lx.R.bad] at h
   .simp[Lx.R.bad] at h;omega
  .split at h
   .unfold Lx.numberR at h;split at h
    .simp[Lx.R.bad] at h;omega
    .split at h
     .simp[Lx.R.ok,Lx.R.bad] at h
     .simp[Lx.R.bad] at h;omega
   .split at h
    .have:=J3 r.length r 1 [] a er (AD _) h;simp only[length_cons];omega
    .unfold Lx.markR at h;split at h
     .simp[Lx.R.bad] at h;omega
     .simp[Lx.R.ok,Lx.R.bad] at h
theorem S3(dot:Bool):∀(f:Nat) (l:AQ) (i c a er:Nat),l.length<f->Lx.lexF dot f l i c=.inr (a,er)->a<=i+l.length
 | 0,l,i,c,a,er,hf,h=>by omega
 | f+1,l,i,c,a,er,hf,h=>by
  have hk:=Lx.skip_le false l;simp only[Lx.lexF] at h;split at h
  .split at h
   .simp at h
   .simp at h;omega
  .rename_i x r hd;have hl:=congrArg List.length hd;simp at hl;split at h
   .rename_i o e ht;simp at h;have:=Ar1 ht;simp only[length_cons] at this;omega
   .rename_i k t m n ht;have a0:=B9 ht;split at h
    .rcases hg:Lx.lexF dot f (r.drop (n - 1)) (i+Lx.skipF false l+n) (c+1) with ts | ⟨a',e'⟩
     .rw[hg] at h;simp[Lx.Out.pre] at h
     .rw[hg] at h;simp[Lx.Out.pre] at h;have:=S3 dot f _ _ _ a' e' (by simp;omega) hg;simp only[length_drop] at this;omega
    .simp at h;omega
theorem Ar2{dot:Bool}{l:AQ}{a er:Nat}(h:Lx.lex dot l=.inr (a,er)):a<=l.length:=by
 unfold Lx.lex at h;split at h
 .simp at h;omega
 .have:=S3 dot _ l 0 0 a er (Nat.lt_succ_self _) h;omega
end
section
open Px (TS TSim Ins)
theorem parse_bad_cases{l:AQ}{a er:Nat}(h:Px.parse l=.inr (a,er)):(Lx.lex true l=.inr (a,er)/\er≠0/\a<=l.length)\/∃ts,Lx.lex true l=.inl ts/\(∃t∈ts,t.place=a)/\(er=31\/er=32)/\a<=l.length:=by
 unfold Px.parse at h;rcases hl:Lx.lex true l with ts | ⟨a',a0⟩
 .rw[hl] at h;simp only at h;rcases hp:Px.program ts with⟨p,r⟩ | ⟨a',a0⟩
  .rw[hp] at h;simp at h
  .rw[hp] at h;simp only[Sum.inr.injEq,Prod.mk.injEq] at h;obtain⟨rfl,rfl⟩:=h;obtain⟨⟨t,ht,a3⟩,he⟩:=Rg hl hp;refine AJ ⟨ts,rfl,⟨t,ht,a3⟩,he,?_⟩;have a4:=(Ea hl).2;unfold Lx.lex at hl;rw[if_neg (by omega)] at hl;have:=Ai4 true l (l.length+1) 0 0 ts (by omega) (by omega) (by simpa using hl) t ht;omega
 .rw[hl] at h;simp only[Sum.inr.injEq,Prod.mk.injEq] at h;obtain⟨rfl,rfl⟩:=h;exact AI ⟨rfl,Am7 hl,Ar2 hl⟩
end
section
open Go.RowKit
abbrev At7(k o n:Nat)(t:Lx.B)(sl:Value)(p:Nat):Obj:=.cells #[iv k,iv o,iv n,.string ⟨t.toArray⟩,iv 0,sE,sl,iv p] 48
abbrev boxes(w:World)(k o n:Nat)(t:Lx.B)(ao:Option Addr)(len cap p:Nat)(ao':Option Addr)(cap' p':Nat):World:=(w.alloc (At7 k o n t (.slice ao len cap) p)).alloc (At7 k o n t (.slice ao' len cap') p')
theorem Ew.slice{B:AS}{l:List Px.Sl}(h:Ew B w l v):∃ao cap,v=.slice ao l.length cap:=by
 obtain⟨ao,cap,e,_⟩:=SlRow.slice h;exact⟨ao,cap,e⟩
abbrev Mn:Value:=.agg #[iv 0,sZ,sZ]
def Op(res:Px.Pr ⊕ (Nat × Nat))(w:World)(e:Ending)(w':World):Prop:=
 match res with
 | .inl p=>(∃v,e=.returned (.tuple #[v,iv 0,iv 0])/\E2 (From w.heap.size) w' p v)/\Below w.heap.size w w'
 | .inr (a,er)=>e=.returned (.tuple #[Mn,iv a,iv er])/\Below w.heap.size w w'
def Ar3:Prop:=∀(s:ByteArray) (w:World),Env w->s.size<=maxLen->AA 9 #[.string s] w λ e w'=>Op (Px.parse s.data.toList) w e w'
theorem E2.cells{B:AS}{p:Px.Pr}(h:E2 B w p v):∃sa sn sc fa fn fc,v=.agg #[iv p.version,.slice sa sn sc,.slice fa fn fc]:=by
 obtain⟨ss,fs,hv,h1,row,h2,h3⟩:=h;obtain⟨sa,sc,rfl⟩:=Ew.slice h1;obtain⟨fa,fc,rfl,_⟩:=h2.slice;exact⟨sa,_,sc,fa,_,fc,hv⟩
end
section
namespace Ck
open Lx (B)
open Px (Ex St Sl Pr)
def Sim{α:Type}:R α->R α->Prop
 | .inl x,.inl y=>x=y
 | .inr a,.inr b=>a.2=b.2
 | _,_=>False
theorem Sim.refl{α:Type}(r:R α):Sim r r:=by cases r <;> rfl
theorem Sim.trans{α:Type}{a b c:R α}(h:Sim a b)(k:Sim b c):Sim a c:=by
 cases a <;> cases b <;> cases c <;> first | exact Eq.trans h k | exact h.elim | exact k.elim
theorem Sim.symm{α:Type}{a b:R α}(h:Sim a b):Sim b a:=by
 cases a <;> cases b <;> first | exact Eq.symm h | exact h.elim
theorem Sim.bind{α β:Type}{a b:R α}{f g:α->R β}(h:Sim a b)(k:∀x,Sim (f x) (g x)):Sim (Ck.bind a f) (Ck.bind b g):=by
 cases a <;> cases b
 .rename_i x y;have e:x=y:=h;subst e;exact k x
 .exact h.elim
 .exact h.elim
 .exact h
theorem Bf(b:Bool)(p q e:Nat):Sim (Ck.need b p e) (Ck.need b q e):=by cases b <;> rfl
def Hn(q q':Q):Prop:=Sim q.1 q'.1
def F3:List Q->List Q->Prop
 | [],[]=>True
 | a :: l,b :: m=>Hn a b/\F3 l m
 | _,_=>False
theorem F3.len:∀{l m:List Q},F3 l m->l.length=m.length
 | [],[],_=>rfl
 | a :: l,b :: m,h=>by simp[F3.len h.2]
 | [],_ :: _,h=>h.elim
 | _ :: _,[],h=>h.elim
theorem F3.arg:∀{l m:List Q} (i:Nat),F3 l m->Hn (Ck.arg l i) (Ck.arg m i)
 | [],[],i,_=>Sim.refl _
 | a :: l,b :: m,0,h=>h.1
 | a :: l,b :: m,i+1,h=>by
  have:=F3.arg i h.2;simpa [Ck.arg] using this
 | [],_ :: _,_,h=>h.elim
 | _ :: _,[],_,h=>h.elim
theorem Hn.asked{q q':Q}(h:Hn q q')(t:B):Sim (Ck.asked q t) (Ck.asked q' t):=
 Sim.bind h λ x=>Sim.bind (Bf _ _ _ _) λ _=>rfl
theorem F3.all:∀{l m:List Q} (ts:List B),F3 l m->Sim (Ck.all l ts) (Ck.all m ts)
 | [],[],ts,_=>Sim.refl _
 | a :: l,b :: m,[],h=>by simp[Ck.all,Sim]
 | a :: l,b :: m,t :: ts,h=>by
  simp only[Ck.all];exact (Hn.asked h.1 t).bind λ x=>(F3.all ts h.2).bind λ xs=>rfl
 | [],_ :: _,_,h=>h.elim
 | _ :: _,[],_,h=>h.elim
theorem Tt(c:Cx)(k o n:Nat)(t:B)(p q:Nat){l m:List Q}(h:F3 l m):Sim (Ck.comb c k o n t p l) (Ck.comb c k o n t q m):=by
 unfold Ck.comb
 repeat' split
 .rfl
 .rfl
 .rfl
 .exact (Bf _ _ _ _).bind λ _=>rfl
 .unfold Ck.call;refine (Bf _ _ _ _).bind λ _=>(Bf _ _ _ _).bind λ _=>?_
  rw[h.len];exact (Bf _ _ _ _).bind λ _=>(h.all _).bind λ xs=>rfl
 .unfold Ck.builtin;simp only[h.len];refine (Bf _ _ _ _).bind λ _=>(h.arg 0).bind λ x=>(Bf _ _ _ _).bind λ _=>?_
  split
  .exact (Hn.asked (h.arg 1) _).bind λ y=>rfl
  .rfl
 .exact (h.arg 0).bind λ x=>(Bf _ _ _ _).bind λ _=>(Hn.asked (h.arg 1) _).bind λ y=>rfl
 .exact (Hn.asked (h.arg 0) _).bind λ x=>rfl
 .exact (Hn.asked (h.arg 0) _).bind λ x=>rfl
 .exact (h.arg 0).bind λ x=>(h.arg 1).bind λ y=>(Bf _ _ _ _).bind λ _=>rfl
mutual
theorem Bd4(c:Cx):∀x:Ex,Sim (cE c x) (cE c x.er)
 | .mk k o n t args p=>by
  rw[Px.Ex.er,cE,cE];exact Tt c k o n t p 0 (Q2 c args)
theorem Q2(c:Cx):∀l:List Ex,F3 (cEs c l) (cEs c (Px.ersE l))
 | []=>by rw[Px.ersE,cEs];trivial
 | .mk k o n t args p :: r=>by
  rw[Px.ersE,Px.Ex.er,cEs,cEs];refine⟨?_,Q2 c r⟩;show Sim (cE c _) (cE c _);rw[cE,cE];exact Tt c k o n t p 0 (Q2 c args)
end
theorem Al8(l:List Ex):(Px.ersE l).length=l.length:=by rw[Px.ersE_map,length_map]
theorem Q3(env:Env)(ls:List B)(n:B)(p q kind:Nat)(t:B):Sim (Ck.loc env ls n p kind t) (Ck.loc env ls n q kind t):=
 ((Bf _ _ _ _).bind λ _=>rfl:Sim (Ck.note env n p _) (Ck.note env n q _)).bind λ e=>(Bf _ _ _ _).bind λ _=>rfl
theorem M5(env:Env)(n:B)(p q:Nat):Sim (Ck.targ env n p) (Ck.targ env n q):=(Bf _ _ _ _).bind λ _=>(Bf _ _ _ _).bind λ _=>rfl
mutual
theorem Bc2(k:Kx)(env:Env)(ls:List B):∀s:St,Sim (cS k env ls s) (cS k env ls s.er)
 | .mk kind n es body other p=>by
  have h:=Q2 (k.at env) es;rw[Px.St.er,cS,cS];simp only[Al8]
  repeat' split
  .exact (h.arg 0).bind λ x=>(Q3 _ _ _ _ _ _ _).bind λ e=>rfl
  .exact (M5 _ _ _ _).bind λ m=>(Hn.asked (h.arg 0) _).bind λ x=>rfl
  .exact (M5 _ _ _ _).bind λ m=>(Bf _ _ _ _).bind λ _=>(Hn.asked (h.arg 0) _).bind λ x=>(Hn.asked (h.arg 1) _).bind λ y=>rfl
  .exact (M5 _ _ _ _).bind λ m=>(Bf _ _ _ _).bind λ _=>(Hn.asked (h.arg 0) _).bind λ x=>rfl
  .exact (Hn.asked (h.arg 0) _).bind λ x=>(M6 k env ls body).bind λ a=>(M6 k env a.2.2 other).bind λ b=>rfl
  .exact (Hn.asked (h.arg 0) _).bind λ x=>(Q3 _ _ _ _ _ _ _).bind λ e=>(M6 k e.1 e.2 body).bind λ a=>rfl
  .exact (Hn.asked (h.arg 0) _).bind λ x=>rfl
theorem M6(k:Kx)(env:Env)(ls:List B):∀l:List St,Sim (cSs k env ls l) (cSs k env ls (Px.ersS l))
 | []=>by rw[Px.ersS];exact Sim.refl _
 | s :: r=>by
  rw[Px.ersS,cSs,cSs];exact (Bc2 k env ls s).bind λ a=>(M6 k a.2.1 a.2.2 r).bind λ b=>rfl
end
theorem O8:∀(l:List Sl) (env:Env) (i:Nat),Sim (Ck.states env i l) (Ck.states env i (l.map Px.Sl.er))
 | [],env,i=>Sim.refl _
 | s :: r,env,i=>by
  simp only[map_cons,Ck.states];exact (Bf _ _ _ _).bind λ _=>Sim.bind ((Bf _ _ _ _).bind λ _=>rfl) λ e=>O8 r e (i+1)
theorem O9:∀(l:List Sl) (i:Nat),Sim (Ck.params i l) (Ck.params i (l.map Px.Sl.er))
 | [],i=>Sim.refl _
 | s :: r,i=>by
  simp only[map_cons,Ck.params];exact (Bf _ _ _ _).bind λ _=>O9 r (i+1)
theorem Al9:∀(l:List Px.Fn) (env:Env) (i:Nat),Sim (Ck.fns env i l) (Ck.fns env i (l.map Px.Fn.er))
 | [],env,i=>Sim.refl _
 | f :: r,env,i=>by
  simp only[map_cons,Ck.fns];exact (Bf _ _ _ _).bind λ _=>Sim.bind ((Bf _ _ _ _).bind λ _=>rfl) λ e=>(O9 f.params 0).bind λ _=>Al9 r e (i+1)
theorem Xx:∀(l:List Sl) (env:Env) (ls:List B),Sim (Ck.locs env ls l) (Ck.locs env ls (l.map Px.Sl.er))
 | [],env,ls=>Sim.refl _
 | s :: r,env,ls=>by
  simp only[map_cons,Ck.locs];exact (Q3 _ _ _ _ _ _ _).bind λ e=>Xx r e.1 e.2
theorem Tu(l:List Sl):Ck.slots (l.map Px.Sl.er)=Ck.slots l:=by
 unfold Ck.slots;rw[map_map];rfl
theorem Bc3(f:Px.Fn):Ck.hd f.er=Ck.hd f:=by
 unfold Ck.hd Px.Fn.er;simp only[map_map];rfl
theorem Bc4(hs:List Hd)(env:Env)(i:Nat)(f:Px.Fn):Sim (Ck.fn hs env i f) (Ck.fn hs env i f.er):=by
 unfold Ck.fn;refine (Xx f.params env []).bind λ e=>(M6 _ e.1 e.2 f.body).bind λ a=>?_
 show _=_;congr 1;exact (Tu f.params).symm
theorem Pa(hs:List Hd)(env:Env):∀(l:List Px.Fn) (i:Nat),Sim (Ck.bodies hs env i l) (Ck.bodies hs env i (l.map Px.Fn.er))
 | [],i=>Sim.refl _
 | f :: r,i=>by
  simp only[map_cons,Ck.bodies];exact (Bc4 hs env i f).bind λ x=>(Pa hs env r (i+1)).bind λ xs=>rfl
theorem Tv(p:Pr):Sim (Ck.check p) (Ck.check p.er):=by
 unfold Ck.check;refine (Bf _ _ _ _).bind λ _=>(O8 p.states [] 0).bind λ e1=>(Al9 p.fns e1 0).bind λ e2=>?_
 have h:p.er.fns.map Ck.hd=p.fns.map Ck.hd:=by
  show (p.fns.map Px.Fn.er).map Ck.hd=_;rw[map_map];exact map_congr_left λ f _=>Bc3 f
 rw[h];refine (Pa _ e2 p.fns 0).bind λ fs=>?_
 show _=_;congr 1;exact (Tu p.states).symm
theorem check_same{p q:Pr}(h:p.er=q.er):Sim (Ck.check p) (Ck.check q):=(Tv p).trans (by rw[h];exact (Tv q).symm)
end Ck
end
end Go.Proofs.YtpckmjfabiallaaGreatDoor
