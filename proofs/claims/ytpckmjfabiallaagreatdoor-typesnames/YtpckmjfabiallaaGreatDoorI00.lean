/- Texts of ours, joined. -/
import Derived.Test.YtpckmjfabiallaaGreatDoorShelf
import Derived.WalkSpells
import Derived.WalkLawsBesides
import Derived.BigQuiet
import Derived.Deep.LoopGhost
set_option linter.unusedVariables false
set_option linter.unusedSimpArgs false
set_option maxRecDepth 100000
set_option maxHeartbeats 16000000
namespace Go.Proofs.YtpckmjfabiallaaGreatDoor
instance:CoeTail World Nat:=⟨λ w=>w.heap.size⟩
instance:CoeTail World Addr:=⟨λ w=>⟨w.heap.size,0,none⟩⟩
instance:CoeTail Nat Addr:=⟨λ b=>⟨b,0,none⟩⟩
variable{b i j m p sz:Nat}{s:ByteArray}{v:Value}{w w' w1 w2 wr:World}{xs:List Value}
open List
open Tryz
section
abbrev AQ:Type:=List UInt8
abbrev AR:Type:=List Value
abbrev AS:=Nat->Prop
abbrev iv(n:Int):Value:=.int .i64 n
abbrev bz(l:AQ):Value:=.string ⟨l.toArray⟩
abbrev pt(b o:Nat):Value:=.pointer (some ⟨b,o,none⟩)
abbrev sL(b o n c:Nat):Value:=.slice (some ⟨b,o,none⟩) n c
abbrev sZ:Value:=.slice none 0 0
theorem aP:(∀(a:Act) (d:Tmp) (v:Value),a.put (some d) v={ a with tmps:=a.tmps.setIfInBounds d v })/\(∀(a:Act) (v:Value),a.put none v=a)/\(∀(l:AR) (i:Nat) (a:Value),l.toArray.setIfInBounds i a=(l.set i a).toArray)/\(∀(x:Value) (l:AR) (a:Value),(x :: l).set 0 a=a :: l)/\(∀(x:Value) (l:AR) (n:Nat) (a:Value),(x :: l).set (n+1) a=x :: l.set n a)/\(∀(l:List Bool) (i:Nat) (a:Bool),l.toArray.setIfInBounds i a=(l.set i a).toArray)/\(∀(x:Bool) (l:List Bool) (a:Bool),(x :: l).set 0 a=a :: l)/\(∀(x:Bool) (l:List Bool) (n:Nat) (a:Bool),(x :: l).set (n+1) a=x :: l.set n a):=
 ⟨λ _ _ _=>rfl,λ _ _=>rfl,λ _ _ _=>setIfInBounds_toArray ..,λ _ _ _=>set_cons_zero ..,λ _ _ _ _=>set_cons_succ ..,λ _ _ _=>setIfInBounds_toArray ..,λ _ _ _=>set_cons_zero ..,λ _ _ _ _=>set_cons_succ ..⟩
abbrev sE:Value:=.string ⟨#[]⟩
abbrev AA:=Calls prog
abbrev AB{α}{a:Array α}{i:Nat}{b:α}:=(@Array.getElem?_eq_some_iff α i b a).1
abbrev AC:=@List.mem_cons_self
abbrev AD:=@Nat.le_refl
abbrev AE:=@List.suffix_cons
abbrev AF:=@Go.RowKit.Below.refl
abbrev AG:=@Go.RowKit.Below.heap_setCell
abbrev AH:=@List.mem_cons_of_mem
abbrev AI:=@Or.inl
abbrev AJ:=@Or.inr
abbrev AK{α}{a:List α}{i:Nat}{b:α}:=(@List.getElem?_eq_some_iff α i b a).1
abbrev AL:=@Nat.lt_of_lt_of_le
abbrev AM:=@Array.getElem?_modify
abbrev AN:=@List.getElem?_eq_getElem
abbrev AO:=@Nat.zero_le
abbrev AP:=@Nat.le_trans
namespace Lx
abbrev B:=List UInt8
def isLetter(c:UInt8):Bool:=(97<=c && c<=122) || c == 95
def isDigit(c:UInt8):Bool:=48<=c && c<=57
def isPart(c:UInt8):Bool:=isLetter c || isDigit c
def isBlank(c:UInt8):Bool:=c == 32 || c == 10 || c == 9
def isInNote(c:UInt8):Bool:=c != 10
def isPlain(c:UInt8):Bool:=32<=c && c<=126
def isEsc(c:UInt8):Bool:=c == 34 || c == 92
abbrev R:=(Nat × B × Nat × Nat) ⊕ (Nat × Nat)
@[reducible] def R.ok (k:Nat) (t:B) (num:Nat) (n:Nat):R:=.inl (k,t,num,n)
@[reducible] def R.bad (off:Nat) (e:Nat):R:=.inr (off,e)
def value(t:B):Nat:=t.foldl (λ n c=>n*10+(c.toNat - 48)) 0
def nameR(l:B):R:=if (l.takeWhile isPart).length<=16 then R.ok 1 (l.takeWhile isPart) 0 (l.takeWhile isPart).length else R.bad 0 3
def numberR(l:B):R:=
 if (l.takeWhile isDigit).head?=some 48/\1<(l.takeWhile isDigit).length then R.bad 0 30
 else if value (l.takeWhile isDigit)<=9223372036854775807 then R.ok 2 (l.takeWhile isDigit) (value (l.takeWhile isDigit)) (l.takeWhile isDigit).length
 else R.bad 0 3
def quoteR:B->Nat->B->R
 | [],_,_=>R.bad 0 30
 | [c],o,acc=>if c=34 then (if acc.length<=256 then R.ok 3 acc 0 (o+1) else R.bad 0 3) else if c=92 then R.bad o 30 else if isPlain c then R.bad 0 30 else R.bad o 30
 | c :: d :: r,o,acc=>
  if c=34 then (if acc.length<=256 then R.ok 3 acc 0 (o+1) else R.bad 0 3)
  else if c=92 then (if isEsc d then quoteR r (o+2) (acc ++ [d]) else R.bad o 30)
  else if isPlain c then quoteR (d :: r) (o+1) (acc ++ [c]) else R.bad o 30
def two(l:B):Bool:=
 match l with
 | a :: b :: _=>(b == 61 && (a == 61 || a == 33 || a == 60 || a == 62)) || (a == 38 && b == 38) || (a == 124 && b == 124)
 | _=>false
def ones(dot:Bool):B:=[40,41,123,125,91,93,58,59,44,61,60,62,43,45,42,47,37,33] ++ if dot then [46] else []
def one(dot:Bool)(c:UInt8):Bool:=(ones dot).contains c
def markN(dot:Bool)(l:B):Nat:=
 if two l then 2 else match l with
 | c :: _=>if one dot c then 1 else 0
 | []=>0
def markR(dot:Bool)(l:B):R:=if markN dot l=0 then R.bad 0 30 else R.ok 4 (l.take (markN dot l)) 0 (markN dot l)
def tokR(dot:Bool)(l:B):R:=
 match l with
 | []=>R.ok 5 [] 0 0
 | c :: r=>if isLetter c then nameR (c :: r) else if isDigit c then numberR (c :: r) else if c=34 then quoteR r 1 [] else markR dot (c :: r)
def skipF:Bool->B->Nat
 | _,[]=>0
 | true,c :: r=>if c=10 then 1+skipF false r else 1+skipF true r
 | false,c :: r=>if isBlank c then 1+skipF false r else if c=35 then 1+skipF true r else 0
structure Tok where
 kind:Nat
 text:B
 num:Nat
 place:Nat
abbrev Out:=List Tok ⊕ (Nat × Nat)
def Out.pre(p:List Tok):Out->Out
 | .inl ts=>.inl (p ++ ts)
 | .inr x=>.inr x
def lexF(dot:Bool):Nat->B->Nat->Nat->Out
 | 0,_,_,_=>.inr (0,0)
 | f+1,l,i,c=>
  match l.drop (skipF false l) with
  | []=>if c<4096 then .inl [⟨5,[],0,i+skipF false l⟩] else .inr (i+skipF false l,36)
  | x :: r=>
   match tokR dot (x :: r) with
   | .inr (o,e)=>.inr (i+skipF false l+o,e)
   | .inl (k,t,m,n)=>if c<4096 then Out.pre [⟨k,t,m,i+skipF false l⟩] (lexF dot f (r.drop (n - 1)) (i+skipF false l+n) (c+1)) else .inr (i+skipF false l,36)
def lexGo(dot:Bool)(l:B)(i c:Nat):Out:=lexF dot (l.length+1) l i c
def lex(dot:Bool)(l:B):Out:=if 16384<l.length then .inr (16384,3) else lexGo dot l 0 0
theorem Qr(dot:Bool):∀(f g:Nat) (l:B) (i c:Nat),l.length<f->l.length<g->lexF dot f l i c=lexF dot g l i c
 | 0,_,_,_,_,h,_=>by omega
 | _,0,_,_,_,_,h=>by omega
 | f+1,g+1,l,i,c,hf,hg=>by
  simp only[lexF];rcases hd:l.drop (skipF false l) with _ | ⟨x,r⟩
  .rfl
  .have hl:=congrArg List.length hd;simp at hl;rcases ht:tokR dot (x :: r) with⟨k,t,m,n⟩ | ⟨o,e⟩
   .simp only[ht];rw[Qr dot f g (r.drop (n - 1)) _ _ (by simp;omega) (by simp;omega)]
   .simp only[ht]
theorem lexGo_end{dot:Bool}{l:B}{c:Nat}(h:l.drop (skipF false l)=[]):lexGo dot l i c=if c<4096 then .inl [⟨5,[],0,i+skipF false l⟩] else .inr (i+skipF false l,36):=by
 simp only[lexGo,lexF,h]
theorem lexGo_bad{dot:Bool}{l:B}{c:Nat}{x:UInt8}{r:B}{o e:Nat}(h:l.drop (skipF false l)=x :: r)(ht:tokR dot (x :: r)=R.bad o e):lexGo dot l i c=.inr (i+skipF false l+o,e):=by
 simp only[lexGo,lexF,h,ht]
theorem lexGo_ok{dot:Bool}{l:B}{c:Nat}{x:UInt8}{r:B}{k:Nat}{t:B}{n:Nat}(h:l.drop (skipF false l)=x :: r)(ht:tokR dot (x :: r)=R.ok k t m n)(hn:1<=n) :
  lexGo dot l i c=if c<4096 then Out.pre [⟨k,t,m,i+skipF false l⟩] (lexGo dot (l.drop (skipF false l+n)) (i+skipF false l+n) (c+1)) else .inr (i+skipF false l,36):=by
 have hl:=congrArg List.length h;simp at hl;have e:r.drop (n - 1)=l.drop (skipF false l+n):=by
  rw[<-drop_drop,h];obtain⟨n',rfl⟩:∃n',n=n'+1:=⟨n - 1,by omega⟩;rfl
 have a0:=congrArg List.length e;simp at a0;simp only[lexGo]
 conv=>lhs;simp only[lexF,h,ht]
 rw[e,Qr dot l.length ((l.drop (skipF false l+n)).length+1) _ _ _ (by simp;omega) (by simp)]
theorem pre_pre(p q:List Tok)(o:Out):Out.pre p (Out.pre q o)=Out.pre (p ++ q) o:=by rcases o with o | o <;> simp[Out.pre]
theorem pre_nil(o:Out):Out.pre [] o=o:=by rcases o with o | o <;> rfl
/- How far a loop has come over the bytes of a kind. -/
theorem tw_step{p:UInt8->Bool}:∀{l:B} {k:Nat} (_:k<=(l.takeWhile p).length) (hk:k<l.length),p l[k]=true->k+1<=(l.takeWhile p).length
 | [],k,_,hk,_=>by simp at hk
 | c :: r,0,_,_,hp=>by simp at hp;simp[hp]
 | c :: r,k+1,h,hk,hp=>by
  by_cases hc:p c
  .simp[hc] at h ⊢;exact tw_step (l:=r) h (by simpa using hk) (by simpa using hp)
  .simp[hc] at h
theorem tw_stop{p:UInt8->Bool}:∀{l:B} {k:Nat} (_:k<=(l.takeWhile p).length) (hk:k<l.length),p l[k]=false->(l.takeWhile p).length=k
 | [],k,_,hk,_=>by simp at hk
 | c :: r,0,_,_,hp=>by simp at hp;simp[hp]
 | c :: r,k+1,h,hk,hp=>by
  by_cases hc:p c
  .simp[hc] at h ⊢;exact tw_stop (l:=r) h (by simpa using hk) (by simpa using hp)
  .simp[hc] at h
theorem tw_end{p:UInt8->Bool}{l:B}{k:Nat}(h:k<=(l.takeWhile p).length)(hk:¬k<l.length):(l.takeWhile p).length=k:=by
 have:(l.takeWhile p).length<=l.length:=(takeWhile_prefix p).length_le;omega
theorem tw_le{p:UInt8->Bool}(l:B):(l.takeWhile p).length<=l.length:=(takeWhile_prefix p).length_le
theorem tw_take{p:UInt8->Bool}(l:B):l.take (l.takeWhile p).length=l.takeWhile p:=(prefix_iff_eq_take.1 (takeWhile_prefix p)).symm
theorem tw_drop{p:UInt8->Bool}(l:B):l.drop (l.takeWhile p).length=l.dropWhile p:=by
 have h:l.takeWhile p ++ l.dropWhile p=l:=takeWhile_append_dropWhile;have h2:=take_append_drop (l.takeWhile p).length l;rw[tw_take] at h2;exact append_cancel_left (h2.trans h.symm)
theorem tw_mem{p:UInt8->Bool}:∀{l:B},∀c∈l.takeWhile p,p c=true
 | [],c,h=>by simp at h
 | a :: r,c,h=>by
  by_cases ha:p a
  .simp only[takeWhile_cons,ha,if_true,mem_cons] at h;rcases h with rfl | h
   .exact ha
   .exact tw_mem c h
  .simp[ha] at h
theorem tw_len{p:UInt8->Bool}:∀{l:B},(∀c∈l,p c=true)->(l.takeWhile p).length=l.length
 | [],_=>rfl
 | a :: r,h=>by
  simp[h a (by simp)];exact tw_len λ c hc=>h c (by simp[hc])
theorem tw_all{p:UInt8->Bool}{l:B}:(l.takeWhile p).length=l.length↔l.all p=true:=by
 constructor
 .intro h;have e:l.takeWhile p=l:=by rw[<-tw_take l,h,take_length]
  rw[all_eq_true];intro c hc;exact tw_mem c (by rw[e];exact hc)
 .intro h;rw[all_eq_true] at h;exact tw_len h
/- Blanks and notes. -/
theorem skip_blanks:∀l:B,skipF false l=(l.takeWhile isBlank).length+skipF false (l.drop (l.takeWhile isBlank).length)
 | []=>by simp[skipF]
 | c :: r=>by
  by_cases h:isBlank c
  .simp[h];rw[skipF,if_pos h,skip_blanks r];omega
  .simp[h]
theorem M5:∀r:B,skipF true r=(r.takeWhile isInNote).length+skipF false (r.drop (r.takeWhile isInNote).length)
 | []=>by simp[skipF]
 | c :: r=>by
  by_cases h:c=10
  .subst h;simp[isInNote,skipF,isBlank]
  .have e:isInNote c=true:=by simp[isInNote,h]
   simp[e];rw[skipF,if_neg h,M5 r];omega
theorem skip_hash(r:B):skipF false (35 :: r)=((35 :: r).takeWhile isInNote).length+skipF false ((35 :: r).drop ((35 :: r).takeWhile isInNote).length):=by
 have e:isInNote 35=true:=rfl;simp[e];rw[skipF,if_neg (by decide),if_pos rfl,M5 r];omega
theorem skip_none:∀{l:B},(∀c,l.head?=some c->isBlank c=false/\c≠35)->skipF false l=0
 | [],_=>rfl
 | c :: r,h=>by
  obtain⟨h1,h2⟩:=h c rfl;simp[skipF,h1,h2]
theorem skip_le:∀(b:Bool) (l:B),skipF b l<=l.length
 | true,[]=>by simp[skipF]
 | false,[]=>by simp[skipF]
 | true,c :: r=>by
  have h1:=skip_le true r;have h2:=skip_le false r;simp only[skipF,length_cons];split <;> omega
 | false,c :: r=>by
  have h1:=skip_le true r;have h2:=skip_le false r;simp only[skipF,length_cons];split
  .omega
  .split <;> omega
theorem skip_head:∀(b:Bool) (l:B),∀c,(l.drop (skipF b l)).head?=some c->isBlank c=false/\c≠35
 | true,[]=>by simp
 | false,[]=>by simp
 | true,c :: r=>by
  have h1:=skip_head true r;have h2:=skip_head false r;intro x;simp only[skipF];split
  .rw[Nat.add_comm,drop_succ_cons];exact h2 x
  .rw[Nat.add_comm,drop_succ_cons];exact h1 x
 | false,c :: r=>by
  have h1:=skip_head true r;have h2:=skip_head false r;intro x;simp only[skipF];split
  .rw[Nat.add_comm,drop_succ_cons];exact h2 x
  .split
   .rw[Nat.add_comm,drop_succ_cons];exact h1 x
   .intro h;simp at h;subst h;exact⟨by simp_all,by assumption⟩
end Lx
end
section
open Go.RowKit
theorem Kt(b:Nat)(w:World)(h0:w.cell? b=pt b 0) :
  AA 123 #[pt b 0] w λ e w'=>e=.returned (.tuple #[])/\w'=w:=by
 obtain⟨j,hj,_⟩:=Option.map_eq_some_iff.1 (show (prog.info? 82).map (·.size)=some 2 by kernel_rfl)
 go_enter func123,ntmps123;go_wp2;rw[Lib.run_neq_ptr_same w _ underlying80 hj];go_wp2
 go_end0
 exact⟨rfl,rfl⟩
theorem Qq(b:Nat)(w:World)(h0:w.cell? b=some (.pointer none))(a3:w.shape? b=some (82,2))(a5:w.frozen? b=false) :
  AA 123 #[pt b 0] w λ e w'=>e=.returned (.tuple #[])/\w'=w.setCell b (pt b 0):=by
 obtain⟨j,hj,a4⟩:=Option.map_eq_some_iff.1 (show (prog.info? 82).map (·.size)=some 2 by kernel_rfl)
 have a0:liesAt prog prog.depth 82 (2 / prog.cellsOf 82) 0 82 1=true:=by kernel_rfl
 go_enter func123,ntmps123;go_wp2;rw[Lib.run_to_unsafe w ⟨b,0,none⟩ underlying80 underlying165 hj (by rw[a4];decide) a3 (Nat.zero_lt_succ 1)];simp only[Result.andThen];rw[Oper.upon_value];go_wp2;rw[run_callFunc_extern func151 (by kernel_rfl) (by kernel_rfl) (by kernel_rfl) (e:=Extern.AbiNoEscape.same) (by kernel_rfl)];rw[Lib.run_noEscape];simp only[Result.andThen];rw[Oper.upon_value];go_wp2;rw[Lib.run_from_unsafe w ⟨b,0,none⟩ underlying165 underlying80 hj a3 a0];simp only[Result.andThen];rw[Oper.upon_value];go_wp2
 go_end0
 exact⟨rfl,rfl⟩
abbrev IsB(B b:Nat)(bs:AR)(w:World):Prop:=Lib.IsBuilderF 82 5 B b bs w
theorem Xj(B b:Nat)(bs:AR)(w:World)(h:IsB B b bs w) :
  AA 123 #[pt b 0] w λ e w'=>e=.returned (.tuple #[])/\(Lib.BuilderAtF 82 5 B b (pt b 0) bs w'/\Below B w w'):=by
 rcases h with h | h
 .refine (Qq b w h.cell0 h.shape h.frozen0).mono ?_;rintro e w' ⟨rfl,rfl⟩;exact⟨rfl,h.used _,(AF B w).setCell (p:=⟨b,0,none⟩) h.1 _⟩
 .refine (Kt b w h.cell0).mono ?_;rintro e w' ⟨rfl,rfl⟩;exact⟨rfl,h,AF B _⟩
theorem Mo(B b:Nat)(bs:AR)(c:Int)(w:World)(h:IsB B b bs w)(aa:bs.length+1<=140737488355328)(ad:B<=w) :
  AA 132 #[pt b 0,.int .u8 c] w λ e w'=>e=.returned .nilIface/\(IsB B b (bs ++ [.int .u8 c]) w'/\Below B w w'):=by
 obtain⟨i0,hi,hz⟩:=Option.map_eq_some_iff.1 (show (prog.info? 5).map (λ i=>(i.zero,i.size,i.bytes))=some (some (.int .u8 0),1,1) by kernel_rfl);simp only[Prod.mk.injEq] at hz;obtain⟨a8,a9,ab⟩:=hz;go_enter func132,ntmps132;go_wp2_with (go_at_call 123;refine (Xj B b bs _ h).mono ?_);rintro e w1 ⟨rfl,h1,a5⟩;obtain⟨hB,v,a3,a0,a7⟩:=h1;have c0:w1.cell? b=pt b 0:=by rw[Lib.cell_of_heap a3];rfl
 have c1:w1.cell? ⟨b,1,none⟩=v:=by rw[Lib.cell_of_heap a3];rfl
 go_wp2_with (at_builtin;refine wpList_append_ownF _ rfl _ _ 78 rfl B 5 i0 (.int .u8 0) 1 1 underlying78 hi a8 a9 ab rfl (by decide) _ _ _ rfl (a0.alloc _) ⟨w1,0,none⟩ 1 1 [.int .u8 c] rfl rfl ?c1 ?c2 ?c3 ?c4 ?c5 ?_)
 case c1=>
  intro j u hj
  match j,hj with
  | 0,hj=>simp at hj;subst hj;simp[Addr.add]
 case c2=>intro u hu;simp at hu;subst hu;rfl
 case c3=>unfold maxLen;omega
 case c4=>omega
 case c5=>have:=a5.size;simp;omega
 intro v' w2 hown' hgrow _;have a6:b<w1:=by
  rcases Nat.lt_or_ge b w1 with h' | h'
  .exact h'
  .simp[Array.getElem?_eq_none h'] at a3
 have a4:w2.heap[b]?=some (.cells #[pt b 0,v] 82 (0,0)):=by
  rw[hgrow.block b (by simp;omega) (λ e=>a7 e.symm),Lib.alloc_old w1 _ b a6];exact a3
 have d0:w2.cell? b=pt b 0:=by rw[Lib.cell_of_heap a4];rfl
 have d1:w2.cell? ⟨b,1,none⟩=v:=by rw[Lib.cell_of_heap a4];rfl
 have f1:w2.frozen? ⟨b,1,none⟩=false:=Lib.frozen_of_heap a4 1;obtain⟨g,cap,rfl⟩:∃g cap,v'=sL g 0 (bs.length+1) cap:=by
  rcases hown'.2 with⟨_,h0⟩ | ⟨g,cap,cur,fz,hv,_⟩
  .omega
  .exact⟨g,cap,hv⟩
 go_wp2;go_ret;refine⟨rfl,AJ ?_,?_⟩
 .exact Lib.BuilderAtF.put (T:=82) (e:=5) hB a4 (bs':=bs ++ [.int .u8 c]) (by simpa using hown') (by decide)
 .exact ((a5.alloc (by have:=a5.size;omega) _).grown hgrow (by have:=a5.size;simp;omega) (λ k hk=>(a0.lt k hk).1)).setCell (p:=⟨b,1,none⟩) hB _
theorem Te(B b:Nat)(l:AQ)(w:World)(h:IsB B b (Lib.byteCells l) w)(a0:B<=w) :
  AA 37 #[pt b 0] w λ e w'=>e=.returned (.string ⟨l.toArray⟩)/\Below B w w':=by
 refine (Tryz.Builder_String_any_k B b l w h a0).mono ?_;rintro e w' ⟨rfl,_,hb,_⟩;exact⟨rfl,hb⟩
theorem Mp{B:Nat}(hB:B<=b)(h:w.heap[b]?=some (.cells #[.pointer none,sZ] 82 (0,0))):IsB B b [] w:=
 AI (Lib.BuilderAtF.of ⟨hB,sZ,h,by exact⟨rfl,AI ⟨rfl,rfl⟩⟩,by simp[Value.ownBlock]⟩)
theorem ret_bool{a b:Bool}(h:a=b):Ending.returned (.bool a)=.returned (.bool b):=by rw[h]
theorem ret_int{k:IntKind}{a b:Int}(h:a=b):Ending.returned (.int k a)=.returned (.int k b):=by rw[h]
theorem isLetter_any(c:UInt8)(w:World):AA 100 #[.int .u8 c.toNat] w λ e w'=>e=.returned (.bool (Lx.isLetter c))/\w'=w:=by
 have e:Lx.isLetter c=decide ((97<=(c.toNat:Int)/\(c.toNat:Int)<=122)\/(c.toNat:Int)=95):=by
  rw[Bool.eq_iff_iff];simp[Lx.isLetter,UInt8.le_iff_toNat_le,<-UInt8.toNat_inj];try omega
 rw[e];clear e;go_enter func100,ntmps100;go_wp2
 all_goals
  go_ret;exact⟨ret_bool (by first | rfl | (rw[Bool.eq_iff_iff];simp only[decide_eq_true_eq,Bool.or_eq_true,Bool.and_eq_true,bne_iff_ne,beq_iff_eq,ne_eq,true_iff,Bool.false_eq_true,false_iff,not_or,not_and];done) | (rw[Bool.eq_iff_iff];simp only[decide_eq_true_eq,Bool.or_eq_true,Bool.and_eq_true,bne_iff_ne,beq_iff_eq,ne_eq,true_iff,Bool.false_eq_true,false_iff,not_or,not_and];omega)),rfl⟩
theorem isDigit_any(c:UInt8)(w:World):AA 102 #[.int .u8 c.toNat] w λ e w'=>e=.returned (.bool (Lx.isDigit c))/\w'=w:=by
 have e:Lx.isDigit c=decide (48<=(c.toNat:Int)/\(c.toNat:Int)<=57):=by
  rw[Bool.eq_iff_iff];simp[Lx.isDigit,UInt8.le_iff_toNat_le,<-UInt8.toNat_inj];try omega
 rw[e];clear e;go_enter func102,ntmps102;go_wp2
 all_goals
  go_ret;exact⟨ret_bool (by first | rfl | (rw[Bool.eq_iff_iff];simp only[decide_eq_true_eq,Bool.or_eq_true,Bool.and_eq_true,bne_iff_ne,beq_iff_eq,ne_eq,true_iff,Bool.false_eq_true,false_iff,not_or,not_and];done) | (rw[Bool.eq_iff_iff];simp only[decide_eq_true_eq,Bool.or_eq_true,Bool.and_eq_true,bne_iff_ne,beq_iff_eq,ne_eq,true_iff,Bool.false_eq_true,false_iff,not_or,not_and];omega)),rfl⟩
theorem Qs(c:UInt8)(w:World):AA 97 #[.int .u8 c.toNat] w λ e w'=>e=.returned (.bool (Lx.isBlank c))/\w'=w:=by
 have e:Lx.isBlank c=decide (((c.toNat:Int)=32\/(c.toNat:Int)=10)\/(c.toNat:Int)=9):=by
  rw[Bool.eq_iff_iff];simp[Lx.isBlank,UInt8.le_iff_toNat_le,<-UInt8.toNat_inj];try omega
 rw[e];clear e;go_enter func97,ntmps97;go_wp2
 all_goals
  go_ret;exact⟨ret_bool (by first | rfl | (rw[Bool.eq_iff_iff];simp only[decide_eq_true_eq,Bool.or_eq_true,Bool.and_eq_true,bne_iff_ne,beq_iff_eq,ne_eq,true_iff,Bool.false_eq_true,false_iff,not_or,not_and];done) | (rw[Bool.eq_iff_iff];simp only[decide_eq_true_eq,Bool.or_eq_true,Bool.and_eq_true,bne_iff_ne,beq_iff_eq,ne_eq,true_iff,Bool.false_eq_true,false_iff,not_or,not_and];omega)),rfl⟩
theorem O0(c:UInt8)(w:World):AA 99 #[.int .u8 c.toNat] w λ e w'=>e=.returned (.bool (Lx.isInNote c))/\w'=w:=by
 have e:Lx.isInNote c=decide (¬(c.toNat:Int)=10):=by
  rw[Bool.eq_iff_iff];simp[Lx.isInNote,UInt8.le_iff_toNat_le,<-UInt8.toNat_inj];try omega
 rw[e];clear e;go_enter func99,ntmps99;go_wp2
 all_goals
  go_ret;exact⟨ret_bool (by first | rfl | (rw[Bool.eq_iff_iff];simp only[decide_eq_true_eq,Bool.or_eq_true,Bool.and_eq_true,bne_iff_ne,beq_iff_eq,ne_eq,true_iff,Bool.false_eq_true,false_iff,not_or,not_and];done) | (rw[Bool.eq_iff_iff];simp only[decide_eq_true_eq,Bool.or_eq_true,Bool.and_eq_true,bne_iff_ne,beq_iff_eq,ne_eq,true_iff,Bool.false_eq_true,false_iff,not_or,not_and];omega)),rfl⟩
theorem Qt(c:UInt8)(w:World):AA 134 #[.int .u8 c.toNat] w λ e w'=>e=.returned (.bool (Lx.isPlain c))/\w'=w:=by
 have e:Lx.isPlain c=decide (32<=(c.toNat:Int)/\(c.toNat:Int)<=126):=by
  rw[Bool.eq_iff_iff];simp[Lx.isPlain,UInt8.le_iff_toNat_le,<-UInt8.toNat_inj];try omega
 rw[e];clear e;go_enter func134,ntmps134;go_wp2
 all_goals
  go_ret;exact⟨ret_bool (by first | rfl | (rw[Bool.eq_iff_iff];simp only[decide_eq_true_eq,Bool.or_eq_true,Bool.and_eq_true,bne_iff_ne,beq_iff_eq,ne_eq,true_iff,Bool.false_eq_true,false_iff,not_or,not_and];done) | (rw[Bool.eq_iff_iff];simp only[decide_eq_true_eq,Bool.or_eq_true,Bool.and_eq_true,bne_iff_ne,beq_iff_eq,ne_eq,true_iff,Bool.false_eq_true,false_iff,not_or,not_and];omega)),rfl⟩
theorem needs_any(c:UInt8)(w:World):AA 159 #[.int .u8 c.toNat] w λ e w'=>e=.returned (.bool (Lx.isEsc c))/\w'=w:=by
 have e:Lx.isEsc c=decide ((c.toNat:Int)=34\/(c.toNat:Int)=92):=by
  rw[Bool.eq_iff_iff];simp[Lx.isEsc,UInt8.le_iff_toNat_le,<-UInt8.toNat_inj];try omega
 rw[e];clear e;go_enter func159,ntmps159;go_wp2
 all_goals
  go_ret;exact⟨ret_bool (by first | rfl | (rw[Bool.eq_iff_iff];simp only[decide_eq_true_eq,Bool.or_eq_true,Bool.and_eq_true,bne_iff_ne,beq_iff_eq,ne_eq,true_iff,Bool.false_eq_true,false_iff,not_or,not_and];done) | (rw[Bool.eq_iff_iff];simp only[decide_eq_true_eq,Bool.or_eq_true,Bool.and_eq_true,bne_iff_ne,beq_iff_eq,ne_eq,true_iff,Bool.false_eq_true,false_iff,not_or,not_and];omega)),rfl⟩
theorem Th(c:UInt8)(w:World):AA 130 #[.int .u8 c.toNat] w λ e w'=>e=.returned (.bool (Lx.isPart c))/\w'=w:=by
 unfold Lx.isPart;rcases hl:Lx.isLetter c with _ | _
 all_goals
  go_enter func130,ntmps130;go_wp2_with (first | (go_at_call 100;refine (isLetter_any _ _).mono ?_;rintro e w' ⟨rfl,rfl⟩) | (go_at_call 102;refine (isDigit_any _ _).mono ?_;rintro e w' ⟨rfl,rfl⟩));go_ret;exact⟨ret_bool (by simp),rfl⟩
def Qu(K:Nat)(p:UInt8->Bool):Prop:=∀(c:UInt8) (w:World),AA K #[.int .u8 c.toNat] w λ e w'=>e=.returned (.bool (p c))/\w'=w
theorem count_any(s:ByteArray)(K:Nat)(p:UInt8->Bool)(w:World)(hs:s.size<=maxLen)(hK:Qu K p)(hr:∀(args:Array Value) (w:World),(callFunc K args).run prog w=.ok (.enter K args) w) :
  AA 129 #[.string s,.func (.func K) #[] #[]] w λ e w'=>e=.returned (iv ((s.data.toList.takeWhile p).length:Nat))/\w'=w:=by
 unfold maxLen at hs;go_enter func129,ntmps129;go_wp2
 go_loop [5] (λ i=>∃k:Nat,k<=(s.data.toList.takeWhile p).length/\i=iv k) (λ i=>s.size - (intOf i).toNat)
 case atStart=>exact⟨0,AO _,rfl⟩
 case round=>
  obtain⟨k,hk,rfl⟩:=hrel;have a3:(s.data.toList.takeWhile p).length<=s.size:=by simpa using Lx.tw_le (p:=p) s.data.toList
  by_cases hlt:k<s.size
  .by_cases hp:p s[k]=true
   .go_wp2_with (go_at_fn K;refine (hK _ _).mono ?_;rintro e w' ⟨rfl,rfl⟩)
    go_round
    case rel=>exact⟨k+1,Lx.tw_step hk (by simpa using hlt) (show p (s.data.toList[k]'(by simpa using hlt))=true from hp),by go_num⟩
    case measure=>simp[intOf];omega
   .have a0:p s[k]=false:=by simpa using hp
    go_wp2_with (go_at_fn K;refine (hK _ _).mono ?_;rintro e w' ⟨rfl,rfl⟩)
    go_ret;exact⟨ret_int (by rw[Lx.tw_stop hk (by simpa using hlt) (show p (s.data.toList[k]'(by simpa using hlt))=false from a0)]),rfl⟩
  .go_wp2;go_ret;exact⟨ret_int (by rw[Lx.tw_end hk (by simpa using hlt)]),rfl⟩
structure At(b:Nat)(s:ByteArray)(i:Nat)(w:World):Prop where
 text:w.cell? b=some (.string s)
 spot:w.cell? ⟨b,1,none⟩=iv i
 free:w.frozen? ⟨b,1,none⟩=false
 there:b<w
def Mv(b j:Nat)(w w':World):Prop:=Below w (w.setCell ⟨b,1,none⟩ (iv j)) w'
theorem M8(b:Nat)(s:ByteArray)(i:Nat)(w:World)(h:At b s i w)(hs:s.size<=maxLen)(hi:i<=s.size) :
  AA 98 #[pt b 0] w λ e w'=>e=.returned (.bool (decide (i=s.size)))/\∃n,w'=w.drewN n:=by
 unfold maxLen at hs;obtain⟨h0,h1,h2,h3⟩:=h;go_enter func98,ntmps98;go_wp2
 go_quiet (fail)
 go_wp2;go_ret;exact⟨ret_bool (by rw[Bool.eq_iff_iff];simp;omega),_,rfl⟩
theorem ext_list(s:ByteArray)(i j:Nat):(s.extract i j).data.toList=(s.data.toList.take j).drop i:=by
 rw[ByteArray.data_extract];simp[Array.toList_extract,extract_eq_take_drop];rw[take_drop];by_cases h:i<=j
 .rw[Nat.add_sub_of_le h]
 .rw[drop_eq_nil_of_le (by simp;omega),drop_eq_nil_of_le (by simp;omega)]
theorem ext_size(h:j<=s.size):(s.extract i j).size=j - i:=by
 simp[ByteArray.size_extract];omega
def run(s:ByteArray)(i:Nat)(p:UInt8->Bool):Nat:=((s.data.toList.drop i).takeWhile p).length
theorem F1(s:ByteArray)(i:Nat)(p:UInt8->Bool)(hi:i<=s.size):i+run s i p<=s.size:=by
 have:=Lx.tw_le (p:=p) (s.data.toList.drop i);unfold run;simp at this;omega
theorem Ze(b:Nat)(s:ByteArray)(i K:Nat)(p:UInt8->Bool)(w:World)(h:At b s i w)(hs:s.size<=maxLen)(hi:i<=s.size)(hK:Qu K p)(hr:∀(args:Array Value) (w:World),(callFunc K args).run prog w=.ok (.enter K args) w) :
  AA 96 #[pt b 0,.func (.func K) #[] #[]] w λ e w'=>e=.returned (.string (s.extract i (i+run s i p)))/\∃n,w'=(w.setCell ⟨b,1,none⟩ (iv ((i+run s i p:Nat):Int))).drewN n:=by
 obtain⟨h0,h1,h2,h3⟩:=h;have a0:=F1 s i p hi;have hc:∀w1:World,AA 129 #[.string (s.extract i s.size),.func (.func K) #[] #[]] w1 λ e w'=>e=.returned (iv (run s i p:Nat))/\w'=w1:=by
  intro w1;refine (count_any (s.extract i s.size) K p w1 (by rw[ext_size (Nat.le_refl _)];omega) hK hr).mono ?_;rintro e w' ⟨rfl,rfl⟩;refine⟨ret_int ?_,rfl⟩;rw[ext_list,run,take_of_length_le (by simp)]
 unfold maxLen at hs;have a4:(i:Int)+(run s i p:Int)<=9223372036854775807:=by omega
 have a3:(i:Int)+(run s i p:Int)<=(s.size:Int):=by omega
 have a5:IntKind.i64.wrap ((i:Int)+(run s i p:Int))=(i:Int)+(run s i p:Int):=IntWalk.i64_in _ (by omega);go_enter func96,ntmps96;go_wp2
 go_region_with (go_at_call 129;refine (hc _).mono ?_;rintro e w' ⟨rfl,rfl⟩)
 all_goals
  simp only[Exit.then];refine ‹∀(a:Act) (w:World),_->_› _ _ ?_;go_wp2
  go_quiet (fail)
  go_wp2;go_ret;exact⟨rfl,_,by rw[show ((i+run s i p:Nat):Int)=(i:Int)+(run s i p:Int) by omega];simp only[World.drewN_drew,World.drewN_drewN];rfl⟩
theorem below_drewN{B:Nat}{a:World}(h:Below B a w)(n:Nat):Below B a (w.drewN n):=h.trans ⟨rfl,rfl,rfl,AD _,λ _ _=>rfl⟩
theorem Mr(w:World)(a:Addr)(u v:Value):(w.setCell a u).setCell a v=w.setCell a v:=by
 unfold World.setCell;congr 1;apply Array.ext_getElem?;intro k;simp only[Array.getElem?_modify];by_cases hk:a.block=k
 .simp only[if_pos hk,Option.map_map];cases w.heap[k]? with
  | none=>rfl
  | some o=>
   cases o <;> simp
   split <;> simp
 .simp only[if_neg hk]
theorem G8{B:Nat}(h:Below B w w')(a:Addr)(v:Value):Below B (w.setCell a v) (w'.setCell a v):=by
 refine⟨h.os,h.tape,h.output,by simpa [World.setCell] using h.size,λ k hk=>?_⟩;simp only[World.setCell,Array.getElem?_modify];rw[h.block k hk]
theorem Mv.of_eq{n:Nat}(h:w'=(w.setCell ⟨b,1,none⟩ (iv (j:Int))).drewN n):Mv b j w w':=by
 subst h;exact below_drewN (AF _ _) n
theorem Mv.size(h:Mv b j w w'):w<=w'.heap.size:=by
 have:=Below.size h;simpa [World.setCell] using this
theorem Mv.trans(h:Mv b i w w1)(k:Mv b j w1 w2):Mv b j w w2:=by
 have h1:=G8 h ⟨b,1,none⟩ (iv (j:Int));rw[Mr] at h1;exact h1.trans (k.mono h.size)
theorem Mv.below(h:Mv b j w w1)(k:Below w1 w1 w2):Mv b j w w2:=Below.trans h (k.mono h.size)
theorem Mv.below'{B:Nat}(h:Mv b j w w1)(k:Below B w1 w2)(hB:w<=B):Mv b j w w2:=Below.trans h (k.mono hB)
theorem At.move(h:At b s i w)(m:Mv b j w w'):At b s j w':=by
 obtain⟨h0,h1,h2,h3⟩:=h;refine⟨?_,?_,?_,by have:=m.size;omega⟩
 .rw[Below.cell m (p:=⟨b,0,none⟩) h3,World.cell?_setCell_other _ _ _ _ (by simp)];exact h0
 .rw[Below.cell m (p:=⟨b,1,none⟩) h3];exact World.cell?_setCell_same _ _ _ h1
 .rw[Below.frozen m (p:=⟨b,1,none⟩) h3,World.frozen?_setCell];exact h2
theorem At.below{B:Nat}(h:At b s i w)(m:Below B w w')(hB:b<B):At b s i w':=by
 obtain⟨h0,h1,h2,h3⟩:=h;exact⟨by rw[m.cell (p:=⟨b,0,none⟩) hB];exact h0,by rw[m.cell (p:=⟨b,1,none⟩) hB];exact h1,by rw[m.frozen (p:=⟨b,1,none⟩) hB];exact h2,by have:=m.size;omega⟩
theorem Ti{a:Addr}(h:w.cell? a=v)(ha:a.spot=none):∀k:Nat,(w.setCell a v).heap[k]?=w.heap[k]?:=by
 intro k;simp only[World.setCell,Array.getElem?_modify];by_cases hk:a.block=k
 .simp only[if_pos hk];unfold World.cell? at h;subst hk;rcases hh:w.heap[a.block]? with _ | o
  .rfl
  .rw[hh] at h;cases o <;> simp at h ⊢
   rename_i c e f;rw[ha] at h ⊢;simp at h ⊢;apply Array.ext_getElem?;intro x;rw[Array.getElem?_setIfInBounds];split
   .rename_i hx;subst hx;split
    .exact h.symm
    .rename_i hx;rw[Array.getElem?_eq_none (by omega)]
   .rfl
 .simp only[if_neg hk]
theorem Mv.refl(h:At b s i w):Mv b i w w:=
 ⟨rfl,rfl,rfl,by simp[World.setCell],λ k _=>(Ti h.spot rfl k).symm⟩
theorem As5:Qu 97 Lx.isBlank:=Qs
theorem kInNote:Qu 99 Lx.isInNote:=O0
theorem Zf:Qu 130 Lx.isPart:=Th
theorem Kv:Qu 102 Lx.isDigit:=isDigit_any
theorem As6:Qu 134 Lx.isPlain:=Qt
theorem As7(args:Array Value)(w:World):(callFunc 97 args).run prog w=.ok (.enter 97 args) w:=enters_of func97 (by kernel_rfl) rfl args w
theorem eInNote(args:Array Value)(w:World):(callFunc 99 args).run prog w=.ok (.enter 99 args) w:=enters_of func99 (by kernel_rfl) rfl args w
theorem Zg(args:Array Value)(w:World):(callFunc 130 args).run prog w=.ok (.enter 130 args) w:=enters_of func130 (by kernel_rfl) rfl args w
theorem Kw(args:Array Value)(w:World):(callFunc 102 args).run prog w=.ok (.enter 102 args) w:=enters_of func102 (by kernel_rfl) rfl args w
theorem As8(args:Array Value)(w:World):(callFunc 134 args).run prog w=.ok (.enter 134 args) w:=enters_of func134 (by kernel_rfl) rfl args w
def gap(s:ByteArray)(i:Nat):Nat:=Lx.skipF false (s.data.toList.drop i)
theorem Tj(s:ByteArray)(i:Nat)(hi:i<=s.size):i+gap s i<=s.size:=by
 have:=Lx.skip_le false (s.data.toList.drop i);unfold gap;simp at this;omega
theorem Tl(s:ByteArray)(i:Nat):gap s i=run s i Lx.isBlank+gap s (i+run s i Lx.isBlank):=by
 unfold gap run;rw[<-drop_drop];exact Lx.skip_blanks _
theorem Zh(s:ByteArray)(i:Nat)(h:i<s.size)(hh:s[i]=35):gap s i=run s i Lx.isInNote+gap s (i+run s i Lx.isInNote)/\1<=run s i Lx.isInNote:=by
 have e:s.data.toList.drop i=35 :: s.data.toList.drop (i+1):=by
  rw[drop_eq_getElem_cons (by simpa using h)];congr 1
 unfold gap run;rw[<-drop_drop,e];exact⟨Lx.skip_hash _,by rw[takeWhile_cons_of_pos (by rfl)];simp⟩
theorem Zi(s:ByteArray)(i:Nat)(h:i<s.size)(hb:Lx.isBlank s[i]=false)(hh:s[i]≠35):gap s i=0:=by
 have e:s.data.toList.drop i=s[i] :: s.data.toList.drop (i+1):=by
  rw[drop_eq_getElem_cons (by simpa using h)];congr 1
 unfold gap;rw[e];apply Lx.skip_none;intro c hc;simp at hc;subst hc;exact⟨hb,hh⟩
theorem Zj(s:ByteArray)(i:Nat)(p:UInt8->Bool)(hi:i<=s.size)(h:i+run s i p<s.size):p s[i+run s i p]=false:=by
 have a0:run s i p<(s.data.toList.drop i).length:=by simp;omega
 rcases hq:p s[i+run s i p] with _ | _
 .rfl
 .have:=Lx.tw_step (l:=s.data.toList.drop i) (k:=run s i p) (p:=p) (AD _) a0 (by
   rw[List.getElem_drop];exact hq)
  unfold run at this;omega
theorem take_mv(b:Nat)(s:ByteArray)(i K:Nat)(p:UInt8->Bool)(w:World)(h:At b s i w)(hs:s.size<=maxLen)(hi:i<=s.size)(hK:Qu K p)(hr:∀(args:Array Value) (w:World),(callFunc K args).run prog w=.ok (.enter K args) w) :
  AA 96 #[pt b 0,.func (.func K) #[] #[]] w λ e w'=>e=.returned (.string (s.extract i (i+run s i p)))/\Mv b (i+run s i p) w w':=by
 refine (Ze b s i K p w h hs hi hK hr).mono ?_;rintro e w' ⟨rfl,n,hw⟩;exact⟨rfl,Mv.of_eq hw⟩
theorem At.drewN(h:At b s i w)(n:Nat):At b s i (w.drewN n):=⟨h.text,h.spot,h.free,h.there⟩
theorem M9(b:Nat)(s:ByteArray)(w:World)(h:At b s s.size w)(hs:s.size<=maxLen) :
  AA 98 #[pt b 0] w λ e w'=>e=.returned (.bool true)/\∃n,w'=w.drewN n:=by
 refine (M8 b s s.size w h hs (AD _)).mono ?_;rintro e w' ⟨rfl,hw⟩;exact⟨ret_bool (by simp),hw⟩
theorem F2(b:Nat)(s:ByteArray)(i:Nat)(w:World)(h:At b s i w)(hs:s.size<=maxLen)(hi:i<s.size) :
  AA 98 #[pt b 0] w λ e w'=>e=.returned (.bool false)/\∃n,w'=w.drewN n:=by
 refine (M8 b s i w h hs (by omega)).mono ?_;rintro e w' ⟨rfl,hw⟩;exact⟨ret_bool (by simp;omega),hw⟩
theorem Zk(b:Nat)(s:ByteArray)(i:Nat)(w:World)(h:At b s i w)(hs:s.size<=maxLen)(hi:i<=s.size) :
  AA 65 #[pt b 0] w λ e w'=>e=.returned (.tuple #[])/\Mv b (i+gap s i) w w':=by
 go_enter func65,ntmps65;go_wp2
 go_loopg [] (s.size - i) (λ g wr=>∃j,j<=s.size/\g=s.size - j/\Aside (j+gap s j=i+gap s i)/\At b s j wr/\Mv b j w wr)
 case atStart=>exact⟨i,hi,rfl,rfl,h,Mv.refl h⟩
 case round=>
  obtain⟨j,hj,rfl,hg,a9,ad⟩:=hrel;go_wp2_with (go_at_call 96;refine (take_mv b s j _ _ _ a9 hs hj As5 As7).mono ?_;rintro e w1 ⟨rfl,ab⟩);have a0:=a9.move ab;have a3:=ad.trans ab;clear ab a9 ad;have a6:=F1 s j Lx.isBlank hj;have a4:Aside (gap s j=run s j Lx.isBlank+gap s (j+run s j Lx.isBlank)):=Tl s j;have a7:Aside (∀h:j+run s j Lx.isBlank<s.size,Lx.isBlank s[j+run s j Lx.isBlank]=false):=Zj s j Lx.isBlank hj;have aa:j<=j+run s j Lx.isBlank:=Nat.le_add_right _ _;have ag:∃j1,Aside (j1=j+run s j Lx.isBlank)/\At b s j1 w1/\Mv b j1 w w1/\j1<=s.size/\Aside (gap s j=run s j Lx.isBlank+gap s j1)/\Aside (∀h:j1<s.size,Lx.isBlank s[j1]=false)/\j<=j1:=⟨_,rfl,a0,a3,a6,a4,a7,aa⟩;clear a0 a3 a6 a4 a7 aa;obtain⟨j1,a8,a0,a3,a6,a4,a7,aa⟩:=ag;by_cases hend:j1=s.size
  .subst hend;go_wp2_with fail
   go_quiet ((go_at_call 98;exact Calls.quiet_of (M9 b s _ (a0.drewN _) hs)))
   go_wp2;refine bodyPost_ret (results_none rfl _ _ _) rfl ⟨rfl,?_⟩;have e1:=hg.out;have e2:=a4.out;have e0:=a8.out;have e3:=Tj s s.size (AD _);have e4:=Tj s j hj;rw[show i+gap s i=s.size by omega];exact a3.below' (below_drewN (AF _ _) _) (AD _)
  .have a5:j1<s.size:=by omega
   obtain⟨c0,c1,c2,c3⟩:=a0;have a0:At b s j1 w1:=⟨c0,c1,c2,c3⟩;have af:Aside (Lx.isBlank s[j1]=false):=a7.out a5;by_cases hh:s[j1]=35
   .have hz:((s[j1].toNat:Int) != 35)=false:=by rw[hh];rfl
    go_wp2_with fail
    go_quiet ((go_at_call 98;exact Calls.quiet_of (F2 b s j1 _ (a0.drewN _) hs a5)))
    go_wp2_with (go_at_call 96;refine (take_mv b s j1 _ _ _ (a0.drewN _) hs a6 kInNote eInNote).mono ?_;rintro e w2 ⟨rfl,ae⟩)
    obtain⟨e3,e5⟩:=Zh s j1 a5 hh;go_roundg (s.size - (j1+run s j1 Lx.isInNote))
    case measure=>omega
    case rel=>
     have e1:=hg.out;have e2:=a4.out;have e0:=a8.out;have e6:=F1 s j1 Lx.isInNote a6;exact⟨_,e6,rfl,by show _=_;omega,(a0.drewN _).move ae,(a3.below' (below_drewN (AF _ _) _) (AD _)).trans ae⟩
   .have hz:((s[j1].toNat:Int) != 35)=true:=by
     have:s[j1].toNat≠35:=λ e=>hh (UInt8.toNat_inj.1 e)
     simp;omega
    go_wp2_with fail
    go_quiet ((go_at_call 98;exact Calls.quiet_of (F2 b s j1 _ (a0.drewN _) hs a5)))
    go_wp2;refine bodyPost_ret (results_none rfl _ _ _) rfl ⟨rfl,?_⟩;have e1:=hg.out;have e2:=a4.out;have e0:=a8.out;have e3:=Zi s j1 a5 af.out hh;rw[show i+gap s i=j1 by omega];exact a3.below' (below_drewN (AF _ _) _) (AD _)
def Dm(a e:Nat):List PanicEntry:=[{ v:=.iface 113 (.agg #[iv a,iv e]),recovered:=false }]
@[reducible] def Dw (k:Nat) (t:ByteArray) (num i:Nat):Value:=.agg #[iv k,.string t,iv num,iv i]
theorem Mv.past{w0:World}(hb:Below w w w0)(m:Mv b j w0 w'):Mv b j w w':=
 (G8 hb ⟨b,1,none⟩ (iv (j:Int))).trans (m.mono hb.size)
theorem Mv.kept(m:Mv b j w w'){k:Nat}(hk:k<w)(a0:k≠b):w'.heap[k]?=w.heap[k]?:=by
 rw[Below.block m k hk];exact AG _ _ _ _ a0
def Dx(r:Nat)(w:World):Prop:=∃a t c d,w.heap[r]?=some (.cells #[a,t,c,d] 93 (0,0))
abbrev C8:Obj:=.cells #[iv 0,sE,iv 0,iv 0] 93
theorem Dx.new(w:World):Dx w (w.alloc C8):=⟨_,_,_,_,by show (w.heap.push _)[w.heap.size]?=_;rw[Array.getElem?_push,if_pos rfl]⟩
theorem Dx.lt{r:Nat}(h:Dx r w):r<w:=by
 obtain⟨a,t,c,d,h⟩:=h;exact (AB h).1
theorem Dx.mv{r:Nat}(h:Dx r w)(m:Mv b j w w')(a0:r≠b):Dx r w':=by
 have hl:=h.lt;obtain⟨a,t,c,d,h⟩:=h;exact⟨a,t,c,d,(m.kept hl a0).trans h⟩
theorem Dx.below{r B:Nat}(h:Dx r w)(m:Below B w w')(hB:r<B):Dx r w':=by
 obtain⟨a,t,c,d,h⟩:=h;exact⟨a,t,c,d,(m.block r hB).trans h⟩
theorem Dx.cells{r:Nat}(h:Dx r w):∃a t c d,w.cell? r=some a/\w.cell? ⟨r,1,none⟩=some t/\w.cell? ⟨r,2,none⟩=some c/\w.cell? ⟨r,3,none⟩=some d /\
  w.frozen? r=false/\w.frozen? ⟨r,1,none⟩=false/\w.frozen? ⟨r,2,none⟩=false/\w.frozen? ⟨r,3,none⟩=false:=by
 obtain⟨a,t,c,d,h⟩:=h;exact⟨a,t,c,d,by simp[World.cell?,h],by simp[World.cell?,h],by simp[World.cell?,h],by simp[World.cell?,h],by simp[World.frozen?,h],by simp[World.frozen?,h],by simp[World.frozen?,h],by simp[World.frozen?,h]⟩
theorem Mv.set(m:Mv b j w w'){p:Addr}(hp:w<=p.block)(v:Value):Mv b j w (w'.setCell p v):=Below.setCell m hp v
theorem Mv.set4(m:Mv b j w w'){r:Nat}(hp:w<=r)(x0 x1 x2 x3:Value) :
  Mv b j w ((((w'.setCell r x0).setCell ⟨r,1,none⟩ x1).setCell ⟨r,2,none⟩ x2).setCell ⟨r,3,none⟩ x3):=(((m.set (p:=⟨r,0,none⟩) hp x0).set (p:=⟨r,1,none⟩) hp x1).set (p:=⟨r,2,none⟩) hp x2).set (p:=⟨r,3,none⟩) hp x3
theorem Dn(a e:Nat)(w:World):AA 67 #[iv a,iv e] w λ r w'=>r=.panicked (Dm a e)/\w'=w:=by
 go_enter func67,ntmps67;go_wp2;exact⟨rfl,rfl,rfl⟩
theorem Gt(s:ByteArray)(w:World)(hs:s.size<=281474976710656) :
  AA 114 #[.string s] w λ e w'=>e=.returned (.string s)/\Below w w w':=by
 go_enter func114,ntmps114;go_wp2_with (go_at_call 139;refine (Tryz.stringslite_Clone s _ hs).mono ?_;rintro e w1 ⟨rfl,hb⟩);go_ret;exact⟨rfl,hb⟩
theorem Zl(b:Nat)(s:ByteArray)(i:Nat)(w:World)(h:At b s i w)(hs:s.size<=16384)(hi:i<=s.size)(hn:16<run s i Lx.isPart) :
  AA 101 #[pt b 0] w λ e w'=>e=.panicked (Dm i 3)/\∃j,Mv b j w w':=by
 have a5:s.size<=maxLen:=by unfold maxLen;omega
 obtain⟨c0,c1,c2,c3⟩:=h;have h:At b s i w:=⟨c0,c1,c2,c3⟩;have a6:=F1 s i Lx.isPart hi;have a7:(s.extract i (i+run s i Lx.isPart)).size=run s i Lx.isPart:=by rw[ext_size a6];omega
 have a0:Below w w (w.alloc C8):=(AF _ _).alloc (AD _) _;have a3:=h.below a0 c3;go_enter func101,ntmps101;go_wp2_with (first
  |(go_at_call 96;refine (take_mv b s i _ _ _ a3 a5 hi Zf Zg).mono ?_;rintro e w1 ⟨rfl,a4⟩)
  |(go_at_call 67;refine (Dn i 3 _).mono ?_;rintro e w2 ⟨rfl,rfl⟩))
 exact⟨rfl,rfl,_,a4.past a0⟩
theorem Al2(b:Nat)(s:ByteArray)(i:Nat)(w:World)(h:At b s i w)(hs:s.size<=16384)(hi:i<=s.size)(hn:run s i Lx.isPart<=16) :
  AA 101 #[pt b 0] w λ e w'=>e=.returned (Dw 1 (s.extract i (i+run s i Lx.isPart)) 0 i)/\Mv b (i+run s i Lx.isPart) w w':=by
 have a8:s.size<=maxLen:=by unfold maxLen;omega
 obtain⟨c0,c1,c2,c3⟩:=h;have h:At b s i w:=⟨c0,c1,c2,c3⟩;have aa:=F1 s i Lx.isPart hi;have a7:(s.extract i (i+run s i Lx.isPart)).size=run s i Lx.isPart:=by rw[ext_size aa];omega
 have a4:Below w w (w.alloc C8):=(AF _ _).alloc (AD _) _;have a6:=h.below a4 c3;go_enter func101,ntmps101;go_wp2_with (first
  |(go_at_call 96;refine (take_mv b s i _ _ _ a6 a8 hi Zf Zg).mono ?_;rintro e w1 ⟨rfl,a3⟩))
 refine (Gt _ _ (by rw[a7];omega)).mono ?_;rintro e w2 ⟨rfl,a5⟩;have a0:=(Dx.new w).mv a3 (by omega);have a9:=a0.below a5 a0.lt;obtain⟨x0,x1,x2,x3,d0,d1,d2,d3,f0,f1,f2,f3⟩:=a9.cells;go_wp2;exact bodyPost_ret (v:=Dw 1 (s.extract i (i+run s i Lx.isPart)) 0 i) (by simp[results,results101,go_sem,d0,d1,d2,d3,Dw]) rfl ⟨rfl,((a3.past a4).below' a5 (Nat.le_of_lt a0.lt)).set4 (AD _) _ _ _ _⟩
def J8(acc:Nat)(t:AQ):Nat:=t.foldl (λ n c=>n*10+(c.toNat - 48)) acc
theorem Vp:∀(t:AQ) (acc:Nat),acc<=J8 acc t
 | [],acc=>AD _
 | c :: r,acc=>by
  have h:=Vp r (acc*10+(c.toNat - 48));show acc<=J8 (acc*10+(c.toNat - 48)) r;omega
theorem H8:∀(t:AQ) (acc:Nat),(∀c∈t,Lx.isDigit c=true)->acc<=18446744073709551615 ->
  Lib.parseUintM 18446744073709551615 acc t=if J8 acc t<=18446744073709551615 then .ok (J8 acc t) else .range
 | [],acc,_,h=>by
  have hv:J8 acc []=acc:=rfl;rw[hv,if_pos h];rfl
 | c :: r,acc,hd,h=>by
  have hc:=hd c (by simp);simp[Lx.isDigit,UInt8.le_iff_toNat_le] at hc;have a0:=Vp r (acc*10+(c.toNat - 48));have hv:J8 acc (c :: r)=J8 (acc*10+(c.toNat - 48)) r:=rfl;rw[hv,Lib.parseUintM,if_pos hc];by_cases h1:1844674407370955162<=acc
  .rw[if_pos h1,if_neg (by omega)]
  .rw[if_neg h1];by_cases h2:18446744073709551615<acc*10+(c.toNat - 48)
   .rw[if_pos h2,if_neg (by omega)]
   .rw[if_neg h2];exact H8 r _ (λ x hx=>hd x (by simp[hx])) (by omega)
theorem Na(t:AQ)(a0:t≠[])(hd:∀c∈t,Lx.isDigit c=true):Lib.parseIntB 64 t=if Lx.value t<=9223372036854775807 then .ok (Lx.value t:Int) else .range:=by
 match t,a0,hd with
 | c :: r,_,hd=>
  have hc:=hd c (by simp);simp[Lx.isDigit,UInt8.le_iff_toNat_le] at hc;rw[Lib.parseIntB_plain 64 c r (by omega) (by omega)];have hu:Lib.parseUintB 64 (c :: r)=if J8 0 (c :: r)<=18446744073709551615 then .ok (J8 0 (c :: r)) else .range:=by
   unfold Lib.parseUintB;rw[if_neg (by simp)];exact H8 (c :: r) 0 hd (by omega)
  rw[hu];have hv:Lx.value (c :: r)=J8 0 (c :: r):=rfl;rw[hv];by_cases h1:J8 0 (c :: r)<=18446744073709551615
  .rw[if_pos h1];simp only[Lib.signlessC];by_cases h2:J8 0 (c :: r)<=9223372036854775807
   .rw[if_pos h2,if_neg (by show ¬9223372036854775808<=_;omega)]
   .rw[if_neg h2,if_pos (by show 9223372036854775808<=_;omega)]
  .rw[if_neg h1,if_neg (by omega)];rfl
def Env(w:World):Prop:=∃tp p,w.cell? ⟨2,0,none⟩=some (.iface tp p)
theorem Env.lt(h:Env w):2<w.heap.size:=by
 obtain⟨tp,p,h⟩:=h;exact Lib.lt_of_cell h
theorem Env.below{B:Nat}(h:Env w)(m:Below B w w')(hB:2<B):Env w':=by
 obtain⟨tp,p,h⟩:=h;exact⟨tp,p,(m.cell (p:=⟨2,0,none⟩) hB).trans h⟩
theorem Env.mv(h:Env w)(m:Mv b j w w')(hb:2≠b):Env w':=by
 have hl:=h.lt;obtain⟨tp,p,h⟩:=h;exact⟨tp,p,(World.cell?_of_block (w:=w) (m.kept hl hb)).trans h⟩
theorem Qv(t:ByteArray)(w:World)(hn:t.size<=16384)(a0:t.size≠0)(hd:∀c∈t.data.toList,Lx.isDigit c=true)(hv:Lx.value t.data.toList<=9223372036854775807) :
  AA 131 #[.string t,iv 10,iv 64] w λ e w'=>e=.returned (.tuple #[iv (Lx.value t.data.toList:Nat),.nilIface])/\Below w w w':=by
 refine (Tryz.strconv_ParseInt_10_at64_ok t (by omega) (Lx.value t.data.toList:Nat) (by rw[Na _ (by intro e;apply a0;have:=congrArg List.length e;simpa using this) hd,if_pos hv]) w).mono ?_;rintro e w' ⟨rfl,hw⟩;refine⟨rfl,?_⟩;rcases hw with rfl | ⟨t',rfl⟩
 .exact AF _ _
 .exact Lib.bytesWorld_below _ _ _
theorem Nb(t:ByteArray)(w:World)(a0:Env w)(hn:t.size<=16384)(a3:t.size≠0)(hd:∀c∈t.data.toList,Lx.isDigit c=true)(hv:¬Lx.value t.data.toList<=9223372036854775807) :
  AA 131 #[.string t,iv 10,iv 64] w λ e w'=>∃x N,e=.returned (.tuple #[iv x,.iface 193 (pt N 0)])/\Below w w w':=by
 obtain⟨tp,p,hc⟩:=a0;refine (Tryz.strconv_ParseInt_10_at64_range t (by omega) (by rw[Na _ (by intro e;apply a3;have:=congrArg List.length e;simpa using this) hd,if_neg hv]) _ w hc (AJ ⟨_,_,rfl⟩)).mono ?_;rintro e w' ⟨N,rfl,_,_,hb⟩;exact⟨_,N,rfl,hb⟩
theorem Vq{p:UInt8->Bool}(h:i<s.size)(hp:p s[i]=true):1<=run s i p:=by
 have e:s.data.toList.drop i=s[i] :: s.data.toList.drop (i+1):=by
  rw[drop_eq_getElem_cons (by simpa using h)];congr 1
 unfold run;rw[e,takeWhile_cons_of_pos hp];simp
theorem E4(s:ByteArray)(i:Nat)(p:UInt8->Bool):(s.extract i (i+run s i p)).data.toList=(s.data.toList.drop i).takeWhile p:=by
 rw[ext_list,<-Lx.tw_take (p:=p) (s.data.toList.drop i),take_drop];rfl
theorem Ms(b:Nat)(s:ByteArray)(i:Nat)(w:World)(h:At b s i w)(hs:s.size<=16384)(hi:i<s.size)(a4:s[i]=48)(hn:1<run s i Lx.isDigit) :
  AA 103 #[pt b 0] w λ e w'=>e=.panicked (Dm i 30)/\∃j,Mv b j w w':=by
 have a7:s.size<=maxLen:=by unfold maxLen;omega
 obtain⟨c0,c1,c2,c3⟩:=h;have h:At b s i w:=⟨c0,c1,c2,c3⟩;have a8:=F1 s i Lx.isDigit (by omega);have a9:(s.extract i (i+run s i Lx.isDigit)).size=run s i Lx.isDigit:=by rw[ext_size a8];omega
 have a0:((s.extract i (i+run s i Lx.isDigit))[0]'(by omega))=48:=by rw[ByteArray.getElem_extract];exact a4
 have a3:Below w w (w.alloc C8):=(AF _ _).alloc (AD _) _;have a5:=h.below a3 c3;go_enter func103,ntmps103;go_wp2_with (first
  |(go_at_call 96;refine (take_mv b s i _ _ _ a5 a7 (by omega) Kv Kw).mono ?_;rintro e w1 ⟨rfl,a6⟩)
  |(go_at_call 67;refine (Dn i 30 _).mono ?_;rintro e w2 ⟨rfl,rfl⟩))
 exact⟨rfl,rfl,_,a6.past a3⟩
theorem Qw(b:Nat)(s:ByteArray)(i:Nat)(w:World)(h:At b s i w)(a6:Env w)(ag:2≠b)(hs:s.size<=16384)(hi:i<s.size)(aa:Lx.isDigit s[i]=true)(a9:¬(s[i]=48/\1<run s i Lx.isDigit))
  (hv:¬Lx.value ((s.data.toList.drop i).takeWhile Lx.isDigit)<=9223372036854775807) :
  AA 103 #[pt b 0] w λ e w'=>e=.panicked (Dm i 3)/\∃j,Mv b j w w':=by
 have af:s.size<=maxLen:=by unfold maxLen;omega
 obtain⟨c0,c1,c2,c3⟩:=h;have h:At b s i w:=⟨c0,c1,c2,c3⟩;have ah:=Vq hi aa;have ai:=F1 s i Lx.isDigit (by omega);have a7:(s.extract i (i+run s i Lx.isDigit)).size=run s i Lx.isDigit:=by rw[ext_size ai];omega
 have a8:Below w w (w.alloc C8):=(AF _ _).alloc (AD _) _;have ae:=h.below a8 c3;have ad:=a6.below a8 a6.lt;have a5:Aside (∀c∈(s.extract i (i+run s i Lx.isDigit)).data.toList,Lx.isDigit c=true):=by
  show ∀c∈_,_;rw[E4];exact Lx.tw_mem
 have a3:Aside (¬Lx.value (s.extract i (i+run s i Lx.isDigit)).data.toList<=9223372036854775807):=by
  show ¬_;rw[E4];exact hv
 have a0:Aside ((s.extract i (i+run s i Lx.isDigit))[0]'(by omega)=s[i]):=by show _=_;rw[ByteArray.getElem_extract];simp
 clear hv;by_cases hf:s[i]=48
 .have hx:((s.extract i (i+run s i Lx.isDigit))[0]'(by omega))=48:=by rw[a0.out];exact hf
  have hn:run s i Lx.isDigit<=1:=Nat.le_of_not_lt λ a=>a9 ⟨hf,a⟩
  clear a9;go_enter func103,ntmps103;go_wp2_with (first
   |(go_at_call 96;refine (take_mv b s i _ _ _ ae af (by omega) Kv Kw).mono ?_;rintro e w1 ⟨rfl,a4⟩)
   |(go_at_call 131;refine (Nb _ _ (ad.mv a4 ag) (by rw[a7];omega) (by rw[a7];omega) a5.out a3.out).mono ?_;rintro e w2 ⟨xx,N,rfl,ab⟩)
   |(go_at_call 67;refine (Dn i 3 _).mono ?_;rintro e w3 ⟨rfl,rfl⟩))
  exact⟨rfl,rfl,_,(a4.past a8).below ab⟩
 .have hx:¬(((s.extract i (i+run s i Lx.isDigit))[0]'(by omega)).toNat:Int)=48:=by
   rw[a0.out];intro a;exact hf (UInt8.toNat_inj.1 (by show s[i].toNat=48;omega))
  clear a9;go_enter func103,ntmps103;go_wp2_with (first
   |(go_at_call 96;refine (take_mv b s i _ _ _ ae af (by omega) Kv Kw).mono ?_;rintro e w1 ⟨rfl,a4⟩)
   |(go_at_call 131;refine (Nb _ _ (ad.mv a4 ag) (by rw[a7];omega) (by rw[a7];omega) a5.out a3.out).mono ?_;rintro e w2 ⟨xx,N,rfl,ab⟩)
   |(go_at_call 67;refine (Dn i 3 _).mono ?_;rintro e w3 ⟨rfl,rfl⟩))
  exact⟨rfl,rfl,_,(a4.past a8).below ab⟩
theorem Xl(b:Nat)(s:ByteArray)(i:Nat)(w:World)(h:At b s i w)(hs:s.size<=16384)(hi:i<s.size)(ae:Lx.isDigit s[i]=true)(ad:¬(s[i]=48/\1<run s i Lx.isDigit))
  (hv:Lx.value ((s.data.toList.drop i).takeWhile Lx.isDigit)<=9223372036854775807) :
  AA 103 #[pt b 0] w λ e w'=>e=.returned (Dw 2 (s.extract i (i+run s i Lx.isDigit)) (Lx.value (s.extract i (i+run s i Lx.isDigit)).data.toList) i)/\Mv b (i+run s i Lx.isDigit) w w':=by
 have ah:s.size<=maxLen:=by unfold maxLen;omega
 obtain⟨c0,c1,c2,c3⟩:=h;have h:At b s i w:=⟨c0,c1,c2,c3⟩;have ai:=Vq hi ae;have aj:=F1 s i Lx.isDigit (by omega);have a4:(s.extract i (i+run s i Lx.isDigit)).size=run s i Lx.isDigit:=by rw[ext_size aj];omega
 have af:Below w w (w.alloc C8):=(AF _ _).alloc (AD _) _;have ag:=h.below af c3;have a9:Aside (∀c∈(s.extract i (i+run s i Lx.isDigit)).data.toList,Lx.isDigit c=true):=by
  show ∀c∈_,_;rw[E4];exact Lx.tw_mem
 have a5:Aside ( Lx.value (s.extract i (i+run s i Lx.isDigit)).data.toList<=9223372036854775807):=by
  show _<=_;rw[E4];exact hv
 have a0:Aside ((s.extract i (i+run s i Lx.isDigit))[0]'(by omega)=s[i]):=by show _=_;rw[ByteArray.getElem_extract];simp
 clear hv;by_cases hf:s[i]=48
 .have hx:((s.extract i (i+run s i Lx.isDigit))[0]'(by omega))=48:=by rw[a0.out];exact hf
  have hn:run s i Lx.isDigit<=1:=Nat.le_of_not_lt λ a=>ad ⟨hf,a⟩
  clear ad;go_enter func103,ntmps103;go_wp2_with (first
   |(go_at_call 96;refine (take_mv b s i _ _ _ ag ah (by omega) Kv Kw).mono ?_;rintro e w1 ⟨rfl,a6⟩)
   |(go_at_call 131;refine (Qv _ _ (by rw[a4];omega) (by rw[a4];omega) a9.out a5.out).mono ?_;rintro e w2 ⟨rfl,a8⟩))
  refine (Gt _ _ (by rw[a4];omega)).mono ?_;rintro e w3 ⟨rfl,aa⟩;have a7:=(Dx.new w).mv a6 (by omega);have a3:=a7.below a8 a7.lt;have ab:=a3.below aa a3.lt;obtain⟨x0,x1,x2,x3,d0,d1,d2,d3,f0,f1,f2,f3⟩:=ab.cells;go_wp2;exact bodyPost_ret (v:=Dw 2 (s.extract i (i+run s i Lx.isDigit)) (Lx.value (s.extract i (i+run s i Lx.isDigit)).data.toList) i) (by simp[results,results103,go_sem,d0,d1,d2,d3,Dw]) rfl ⟨rfl,(((a6.past af).below a8).below' aa (Nat.le_of_lt a3.lt)).set4 (AD _) _ _ _ _⟩
 .have hx:¬(((s.extract i (i+run s i Lx.isDigit))[0]'(by omega)).toNat:Int)=48:=by
   rw[a0.out];intro a;exact hf (UInt8.toNat_inj.1 (by show s[i].toNat=48;omega))
  clear ad;go_enter func103,ntmps103;go_wp2_with (first
   |(go_at_call 96;refine (take_mv b s i _ _ _ ag ah (by omega) Kv Kw).mono ?_;rintro e w1 ⟨rfl,a6⟩)
   |(go_at_call 131;refine (Qv _ _ (by rw[a4];omega) (by rw[a4];omega) a9.out a5.out).mono ?_;rintro e w2 ⟨rfl,a8⟩))
  refine (Gt _ _ (by rw[a4];omega)).mono ?_;rintro e w3 ⟨rfl,aa⟩;have a7:=(Dx.new w).mv a6 (by omega);have a3:=a7.below a8 a7.lt;have ab:=a3.below aa a3.lt;obtain⟨x0,x1,x2,x3,d0,d1,d2,d3,f0,f1,f2,f3⟩:=ab.cells;go_wp2;exact bodyPost_ret (v:=Dw 2 (s.extract i (i+run s i Lx.isDigit)) (Lx.value (s.extract i (i+run s i Lx.isDigit)).data.toList) i) (by simp[results,results103,go_sem,d0,d1,d2,d3,Dw]) rfl ⟨rfl,(((a6.past af).below a8).below' aa (Nat.le_of_lt a3.lt)).set4 (AD _) _ _ _ _⟩
def dotC:Bool:=true
theorem Nc:∀(l:AQ) (c:UInt8),(0<=Lib.indexByte l c)↔l.contains c=true
 | [],c=>by simp[Lib.indexByte]
 | a :: r,c=>by
  have ih:=Nc r c;have hg:=Lib.indexByte_ge r c;simp only[Lib.indexByte,contains_cons,Bool.or_eq_true,beq_iff_eq];by_cases h:a=c
  .simp[h]
  .have h':¬c=a:=λ e=>h e.symm
   simp only[h,h',false_or,if_false];rw[<-ih];split <;> omega
theorem H9(s:ByteArray)(hs:2<=s.size):(s.extract 0 2).toList=[s[0],s[1]]:=by
 rw[ByteArray.toList_eq,ext_list];obtain⟨a,b,r,e⟩:∃a b r,s.data.toList=a :: b :: r:=by
  rcases h:s.data.toList with _ | ⟨a,_ | ⟨b,r⟩⟩
  .have h2:s.data.toList.length=0:=by rw[h];rfl
   have h3:s.data.toList.length=s.size:=by simp
   omega
  .have h2:s.data.toList.length=1:=by rw[h];rfl
   have h3:s.data.toList.length=s.size:=by simp
   omega
  .exact⟨a,b,r,rfl⟩
 have e0:s[0]=a:=by
  have:s.data.toList[0]'(by rw[e];simp)=a:=by simp[e]
  exact this
 have e1:s[1]=b:=by
  have:s.data.toList[1]'(by rw[e];simp)=b:=by simp[e]
  exact this
 rw[e0,e1,e];rfl
theorem Ky(s:ByteArray)(hs:2<=s.size):∃r,s.data.toList=s[0] :: s[1] :: r:=by
 have h:=H9 s hs;rw[ByteArray.toList_eq,ext_list] at h;refine⟨s.data.toList.drop 2,?_⟩;have h2:=take_append_drop 2 s.data.toList;simp at h;rw[h] at h2;exact h2.symm
theorem Zm(s:ByteArray)(hs:1<=s.size):∃r,s.data.toList=s[0] :: r:=by
 refine⟨s.data.toList.tail,?_⟩;have e:=drop_eq_getElem_cons (l:=s.data.toList) (i:=0) (by simp;omega);simp at e;exact e
theorem O1(s:ByteArray)(w:World)(hs:2<=s.size)(hm:s.size<=16384)(h:Lx.two s.data.toList=true) :
  AA 135 #[.string s] w λ e w'=>e=.returned (iv 2)/\w'=w:=by
 have hl:=H9 s hs;obtain⟨r,hr⟩:=Ky s hs;rw[hr] at h;clear hr;simp only[Lx.two,Bool.or_eq_true,Bool.and_eq_true,beq_iff_eq] at h;rcases h with (⟨h1,((h0 | h0) | h0) | h0⟩ | ⟨h0,h1⟩) | ⟨h0,h1⟩
 all_goals
  rw[h0,h1] at hl;clear h0 h1;go_enter func135,ntmps135;go_wp2;go_ret;exact⟨rfl,rfl⟩
theorem B3{a b x y:UInt8}(h:¬(a=x/\b=y)):([a,b] == [x,y])=false:=by
 rw[beq_eq_false_iff_ne];intro e;simp at e;exact h e
theorem O2(s:ByteArray)(w:World)(hs:1<=s.size)(hm:s.size<=16384)(h:Lx.two s.data.toList=false) :
  AA 135 #[.string s] w λ e w'=>e=.returned (iv (if Lx.one dotC s[0] then 1 else 0))/\w'=w:=by
 have a3:∀w1:World,AA 160 #[.string ⟨(Lx.ones dotC).toArray⟩,.int .u8 s[0].toNat] w1 λ e w'=>e=.returned (iv (Lib.indexByte (Lx.ones dotC) s[0]))/\w'=w1:=by
  intro w1;refine (Tryz.strings_IndexByte _ _ w1).mono ?_;rintro e w' ⟨rfl,rfl⟩;refine⟨ret_int ?_,rfl⟩;simp
 have a0:=Nc (Lx.ones dotC) s[0];have a5:=Lib.indexByte_ge (Lx.ones dotC) s[0];unfold Lx.one;generalize Lib.indexByte (Lx.ones dotC) s[0]=ix at *;by_cases hc:(Lx.ones dotC).contains s[0]=true
 .have hp:0<=ix:=a0.2 hc;rw[if_pos hc];clear hc a0;by_cases h2:2<=s.size
  .have hl:=H9 s h2;obtain⟨r,hr⟩:=Ky s h2;rw[hr] at h;clear hr;simp only[Lx.two,Bool.or_eq_false_iff,Bool.and_eq_false_iff,beq_eq_false_iff_ne] at h;have k1:((s.extract 0 2).toList == [61,61])=false:=by rw[hl];apply B3;rintro⟨a,b⟩;simp_all
   have k2:((s.extract 0 2).toList == [33,61])=false:=by rw[hl];apply B3;rintro⟨a,b⟩;simp_all
   have k3:((s.extract 0 2).toList == [60,61])=false:=by rw[hl];apply B3;rintro⟨a,b⟩;simp_all
   have k4:((s.extract 0 2).toList == [62,61])=false:=by rw[hl];apply B3;rintro⟨a,b⟩;simp_all
   have k5:((s.extract 0 2).toList == [38,38])=false:=by rw[hl];apply B3;rintro⟨a,b⟩;simp_all
   have k6:((s.extract 0 2).toList == [124,124])=false:=by rw[hl];apply B3;rintro⟨a,b⟩;simp_all
   clear h hl;go_enter func135,ntmps135;go_wp2_with (go_at_call 160;refine (a3 _).mono ?_;rintro e w' ⟨rfl,rfl⟩);go_ret;exact⟨rfl,rfl⟩
  .have a4:¬1<s.size:=by omega
   go_enter func135,ntmps135;go_wp2_with (go_at_call 160;refine (a3 _).mono ?_;rintro e w' ⟨rfl,rfl⟩);go_ret;exact⟨rfl,rfl⟩
 .have hp:¬0<=ix:=λ a=>hc (a0.1 a)
  rw[if_neg hc];clear hc a0;by_cases h2:2<=s.size
  .have hl:=H9 s h2;obtain⟨r,hr⟩:=Ky s h2;rw[hr] at h;clear hr;simp only[Lx.two,Bool.or_eq_false_iff,Bool.and_eq_false_iff,beq_eq_false_iff_ne] at h;have k1:((s.extract 0 2).toList == [61,61])=false:=by rw[hl];apply B3;rintro⟨a,b⟩;simp_all
   have k2:((s.extract 0 2).toList == [33,61])=false:=by rw[hl];apply B3;rintro⟨a,b⟩;simp_all
   have k3:((s.extract 0 2).toList == [60,61])=false:=by rw[hl];apply B3;rintro⟨a,b⟩;simp_all
   have k4:((s.extract 0 2).toList == [62,61])=false:=by rw[hl];apply B3;rintro⟨a,b⟩;simp_all
   have k5:((s.extract 0 2).toList == [38,38])=false:=by rw[hl];apply B3;rintro⟨a,b⟩;simp_all
   have k6:((s.extract 0 2).toList == [124,124])=false:=by rw[hl];apply B3;rintro⟨a,b⟩;simp_all
   clear h hl;go_enter func135,ntmps135;go_wp2_with (go_at_call 160;refine (a3 _).mono ?_;rintro e w' ⟨rfl,rfl⟩);go_ret;exact⟨rfl,rfl⟩
  .have a4:¬1<s.size:=by omega
   go_enter func135,ntmps135;go_wp2_with (go_at_call 160;refine (a3 _).mono ?_;rintro e w' ⟨rfl,rfl⟩);go_ret;exact⟨rfl,rfl⟩
theorem O3(s:ByteArray)(w:World)(hs:1<=s.size)(hm:s.size<=16384) :
  AA 135 #[.string s] w λ e w'=>e=.returned (iv (Lx.markN dotC s.data.toList:Nat))/\w'=w:=by
 rcases h:Lx.two s.data.toList with _ | _
 .refine (O2 s w hs hm h).mono ?_;rintro e w' ⟨rfl,rfl⟩;refine⟨ret_int ?_,rfl⟩;obtain⟨r,hr⟩:=Zm s hs;unfold Lx.markN;rw[h,hr];simp only[Bool.false_eq_true,if_false];split <;> rfl
 .have h2:2<=s.size:=by
   rcases hl:s.data.toList with _ | ⟨a,_ | ⟨b,r⟩⟩
   .rw[hl] at h;simp[Lx.two] at h
   .rw[hl] at h;simp[Lx.two] at h
   .have h3:s.data.toList.length=s.size:=by simp
    rw[<-h3,hl];simp
  refine (O1 s w h2 hm h).mono ?_;rintro e w' ⟨rfl,rfl⟩;exact⟨ret_int (by unfold Lx.markN;rw[h];rfl),rfl⟩
theorem Vr(dot:Bool)(l:AQ):Lx.markN dot l<=l.length:=by
 unfold Lx.markN;rcases l with _ | ⟨a,_ | ⟨b,r⟩⟩
 .simp[Lx.two]
 .simp[Lx.two];split <;> omega
 .split
  .simp
  .simp;split <;> omega
def msize(s:ByteArray)(i:Nat):Nat:=Lx.markN dotC (s.data.toList.drop i)
theorem Zn(s:ByteArray)(i:Nat)(hi:i<=s.size):i+msize s i<=s.size:=by
 have h:=Vr dotC (s.data.toList.drop i);simp at h;unfold msize;omega
theorem Jp(s:ByteArray)(i:Nat)(w:World)(hs:s.size<=16384)(hi:i<s.size) :
  AA 135 #[.string (s.extract i s.size)] w λ e w'=>e=.returned (iv (msize s i:Nat))/\w'=w:=by
 have hz:=ext_size (s:=s) (i:=i) (AD _);refine (O3 _ w (by omega) (by omega)).mono ?_;rintro e w' ⟨rfl,rfl⟩;refine⟨ret_int ?_,rfl⟩;rw[ext_list,msize,take_of_length_le (by simp)]
theorem Zo(b:Nat)(s:ByteArray)(i:Nat)(w:World)(h:At b s i w)(hs:s.size<=16384)(hi:i<s.size)(hz:msize s i=0) :
  AA 105 #[pt b 0] w λ e w'=>e=.panicked (Dm i 30)/\∃j,Mv b j w w':=by
 obtain⟨c0,c1,c2,c3⟩:=h;have h:At b s i w:=⟨c0,c1,c2,c3⟩;have a3:Below w w (w.alloc C8):=(AF _ _).alloc (AD _) _;have a0:∀w1:World,AA 135 #[.string (s.extract i s.size)] w1 λ e w'=>e=.returned (iv 0)/\w'=w1:=by
  intro w1;have:=Jp s i w1 hs hi;rw[hz] at this;exact this
 go_enter func105,ntmps105;go_wp2_with (first
  |(go_at_call 135;refine (a0 _).mono ?_;rintro e w1 ⟨rfl,rfl⟩)
  |(go_at_call 67;refine (Dn i 30 _).mono ?_;rintro e w2 ⟨rfl,rfl⟩))
 exact⟨rfl,rfl,_,(Mv.refl h).below' ((AF _ _).alloc (AD _) _) (AD _)⟩
theorem Al3(b:Nat)(s:ByteArray)(i:Nat)(w:World)(h:At b s i w)(hs:s.size<=16384)(hi:i<s.size)(hz:0<msize s i) :
  AA 105 #[pt b 0] w λ e w'=>e=.returned (Dw 4 (s.extract i (i+msize s i)) 0 i)/\Mv b (i+msize s i) w w':=by
 obtain⟨c0,c1,c2,c3⟩:=h;have h:At b s i w:=⟨c0,c1,c2,c3⟩;have a8:=Zn s i (by omega);have aa:(s.extract i (i+msize s i)).size=msize s i:=by rw[ext_size a8];omega
 have ab:Below w w (w.alloc C8):=(AF _ _).alloc (AD _) _;have a7:∀w1:World,AA 135 #[.string (s.extract i s.size)] w1 λ e w'=>e=.returned (iv (msize s i:Nat))/\w'=w1:=λ w1=>Jp s i w1 hs hi
 have a9:∀w1:World,AA 114 #[.string (s.extract i (i+msize s i))] w1 λ e w'=>e=.returned (.string (s.extract i (i+msize s i)))/\Below w1 w1 w':=λ w1=>Gt _ w1 (by omega)
 have ad:¬(msize s i:Int)=0:=by omega
 have ae:(i:Int)+(msize s i:Int)<=(s.size:Int):=by omega
 go_enter func105,ntmps105;go_wp2_with (first
  |(go_at_call 135;refine (a7 _).mono ?_;rintro e w1 ⟨rfl,rfl⟩))
 have a4:Mv b (i+msize s i) w ((w.setCell ⟨b,1,none⟩ (iv ((i:Int)+(msize s i:Int)))).alloc C8):=by
  unfold Mv;rw[show ((i+msize s i:Nat):Int)=(i:Int)+(msize s i:Int) by omega];exact (AF _ _).alloc (by simp[World.setCell]) _
 have a0:Dx w ((w.setCell ⟨b,1,none⟩ (iv ((i:Int)+(msize s i:Int)))).alloc C8):=by
  have:=Dx.new (w.setCell ⟨b,1,none⟩ (iv ((i:Int)+(msize s i:Int))));simpa [World.setCell] using this
 have a3:=h.move a4;generalize ((w.setCell ⟨b,1,none⟩ (iv ((i:Int)+(msize s i:Int)))).alloc C8)=w2 at *;obtain⟨t0,t1,t2,t3⟩:=a3;clear h c0 c1 c2
 go_region_with (go_at_call 114;refine (a9 _).mono ?_;rintro e w3 ⟨rfl,a5⟩;have a6:Dx w w3:=Dx.below (w:=w2.drew) a0 a5 a0.lt;obtain⟨x0,x1,x2,x3,d0,d1,d2,d3,f0,f1,f2,f3⟩:=a6.cells)
 all_goals
  simp only[Exit.then];refine ‹∀(a:Act) (w:World),_->_› _ _ ?_;go_wp2;exact bodyPost_ret (v:=Dw 4 (s.extract i (i+msize s i)) 0 i) (by simp[results,results105,go_sem,d0,d1,d2,d3,Dw]) rfl ⟨rfl,(a4.below' (below_drewN (AF w2 w2) 1) (Nat.le_of_lt a0.lt)).below' a5 (Nat.le_of_lt a0.lt) |>.set4 (AD _) _ _ _ _⟩
theorem IsB.lt{B:Nat}{bs:AR}(h:IsB B b bs w):b<w:=by
 rcases h with h | h <;> exact h.lt
theorem Cf(c:UInt8)(r:AQ)(o:Nat)(acc:AQ):Lx.quoteR (c :: r) o acc =
  if c=34 then (if acc.length<=256 then Lx.R.ok 3 acc 0 (o+1) else Lx.R.bad 0 3)
  else if c=92 then (match r with | []=>Lx.R.bad o 30 | d :: r'=>if Lx.isEsc d then Lx.quoteR r' (o+2) (acc ++ [d]) else Lx.R.bad o 30)
  else if Lx.isPlain c then Lx.quoteR r (o+1) (acc ++ [c]) else Lx.R.bad o 30:=by
 cases r with
 | nil=>simp only[Lx.quoteR]
 | cons d r=>simp only[Lx.quoteR]
theorem D7(s:ByteArray)(p:Nat)(h:p<s.size):s.data.toList.drop p=s[p] :: s.data.toList.drop (p+1):=by
 rw[drop_eq_getElem_cons (by simpa using h)];congr 1
theorem Kz(s:ByteArray):s.data.toList.drop s.size=[]:=drop_eq_nil_of_le (by simp)
def TokPost(res:Lx.R)(b i:Nat)(w:World)(e:Ending)(w':World):Prop:=
 match res with
 | .inl (k,t,m,n)=>e=.returned (Dw k ⟨t.toArray⟩ m i)/\Mv b (i+n) w w'
 | .inr (off,er)=>e=.panicked (Dm (i+off) er)/\∃j,Mv b j w w'
theorem TokPost.ok{res:Lx.R}{e:Ending}{k:Nat}{t:AQ}{n:Nat}(h:res=Lx.R.ok k t m n)(he:e=.returned (Dw k ⟨t.toArray⟩ m i))(hm:Mv b (i+n) w w'):TokPost res b i w e w':=by
 subst h;exact⟨he,hm⟩
theorem TokPost.bad{res:Lx.R}{e:Ending}{o er:Nat}(h:res=Lx.R.bad o er)(he:e=.panicked (Dm (i+o) er))(hm:∃j,Mv b j w w'):TokPost res b i w e w':=by
 subst h;exact⟨he,hm⟩
theorem Fg{a b:ByteArray}(h:a.data.toList=b.data.toList):a=b:=by
 cases a;cases b;simp at h;congr
theorem Vs(s:ByteArray)(i:Nat)(p:UInt8->Bool):s.extract i (i+run s i p)=⟨((s.data.toList.drop i).takeWhile p).toArray⟩:=Fg (by rw[E4])
theorem Zp(b:Nat)(s:ByteArray)(i:Nat)(w:World)(h:At b s i w)(hs:s.size<=16384)(hi:i<s.size) :
  AA 101 #[pt b 0] w λ e w'=>TokPost (Lx.nameR (s.data.toList.drop i)) b i w e w':=by
 by_cases hn:run s i Lx.isPart<=16
 .refine (Al2 b s i w h hs (by omega) hn).mono ?_;rintro e w' ⟨rfl,hm⟩;exact TokPost.ok (k:=1) (t:=(s.data.toList.drop i).takeWhile Lx.isPart) (m:=0) (by unfold Lx.nameR;exact if_pos hn) (by rw[Vs]) hm
 .refine (Zl b s i w h hs (by omega) (by omega)).mono ?_;rintro e w' ⟨rfl,hm⟩;exact TokPost.bad (o:=0) (by unfold Lx.nameR;exact if_neg hn) rfl hm
theorem Tm(b:Nat)(s:ByteArray)(i:Nat)(w:World)(h:At b s i w)(a3:Env w)(a4:2≠b)(hs:s.size<=16384)(hi:i<s.size)(hd:Lx.isDigit s[i]=true) :
  AA 103 #[pt b 0] w λ e w'=>TokPost (Lx.numberR (s.data.toList.drop i)) b i w e w':=by
 have a0:((s.data.toList.drop i).takeWhile Lx.isDigit).head?=s[i]:=by
  rw[D7 s i hi,takeWhile_cons_of_pos hd];rfl
 have hc:(((s.data.toList.drop i).takeWhile Lx.isDigit).head?=some 48/\1<((s.data.toList.drop i).takeWhile Lx.isDigit).length)↔(s[i]=48/\1<run s i Lx.isDigit):=by
  rw[a0];simp[run]
 by_cases h48:s[i]=48/\1<run s i Lx.isDigit
 .refine (Ms b s i w h hs hi h48.1 h48.2).mono ?_;rintro e w' ⟨rfl,hm⟩;exact TokPost.bad (o:=0) (by unfold Lx.numberR;exact if_pos (hc.2 h48)) rfl hm
 .by_cases hv:Lx.value ((s.data.toList.drop i).takeWhile Lx.isDigit)<=9223372036854775807
  .refine (Xl b s i w h hs hi hd h48 hv).mono ?_;rintro e w' ⟨rfl,hm⟩;exact TokPost.ok (k:=2) (t:=(s.data.toList.drop i).takeWhile Lx.isDigit) (m:=Lx.value ((s.data.toList.drop i).takeWhile Lx.isDigit)) (by unfold Lx.numberR;rw[if_neg (λ a=>h48 (hc.1 a))];exact if_pos hv) (by rw[E4,Vs]) hm
  .refine (Qw b s i w h a3 a4 hs hi hd h48 hv).mono ?_;rintro e w' ⟨rfl,hm⟩;exact TokPost.bad (o:=0) (by unfold Lx.numberR;rw[if_neg (λ a=>h48 (hc.1 a))];exact if_neg hv) rfl hm
theorem Zq(b:Nat)(s:ByteArray)(i:Nat)(w:World)(h:At b s i w)(hs:s.size<=16384)(hi:i<s.size) :
  AA 105 #[pt b 0] w λ e w'=>TokPost (Lx.markR dotC (s.data.toList.drop i)) b i w e w':=by
 by_cases hz:msize s i=0
 .refine (Zo b s i w h hs hi hz).mono ?_;rintro e w' ⟨rfl,hm⟩;exact TokPost.bad (o:=0) (by unfold Lx.markR;exact if_pos hz) rfl hm
 .refine (Al3 b s i w h hs hi (by omega)).mono ?_;rintro e w' ⟨rfl,hm⟩;refine TokPost.ok (k:=4) (t:=(s.data.toList.drop i).take (Lx.markN dotC (s.data.toList.drop i))) (m:=0) (by unfold Lx.markR;exact if_neg hz) ?_ hm;have:s.extract i (i+msize s i)=⟨((s.data.toList.drop i).take (Lx.markN dotC (s.data.toList.drop i))).toArray⟩:=Fg (by
   rw[ext_list];show _=List.take (Lx.markN dotC (s.data.toList.drop i)) (s.data.toList.drop i);rw[take_drop];rfl)
  rw[this]
theorem Tn(b:Nat)(s:ByteArray)(i:Nat)(w:World)(h:At b s i w)(hs:s.size<=16384)(hi:i<s.size)(hl:Lx.isLetter s[i]=true)
  (res:Lx.R) (hcall:∀w1,Below w w w1->AA 101 #[pt b 0] w1 λ e w'=>TokPost res b i w1 e w') :
  AA 66 #[pt b 0] w λ e w'=>TokPost res b i w e w':=by
 have aa:s.size<=maxLen:=by unfold maxLen;omega
 have a5:Below w w (w.alloc C8):=(AF _ _).alloc (AD _) _;have a7:=h.below a5 h.there;have a8:=Dx.new w;have ab:=h.there;go_enter func66,ntmps66;go_wp2_with fail;generalize w.alloc C8=w1 at *;refine (F2 b s i _ a7 aa hi).mono ?_;rintro e w2 ⟨rfl,n2,rfl⟩;obtain⟨t0,t1,t2,t3⟩:=a7;go_wp2_with fail
 go_quiet (fail)
 have a4:Dx w ((w1.drewN n2).drewN nq):=a8;have a6:Below w w ((w1.drewN n2).drewN nq):=below_drewN (below_drewN a5 _) _;generalize (w1.drewN n2).drewN nq=w3 at *;clear a8 a5 t0 t1 t2 t3;have a0:=hcall w3 a6;clear hcall;rcases res with⟨k,t,m,n⟩ | ⟨o,er⟩
 .have a0:AA 101 #[pt b 0] w3 λ e w'=>e=.returned (Dw k ⟨t.toArray⟩ m i)/\Mv b (i+n) w3 w':=a0
  go_wp2_with (first
   |(go_at_call 100;refine (isLetter_any _ _).mono ?_;rw[hl];rintro e w9 ⟨rfl,rfl⟩)
   |(go_at_call 101;refine a0.mono ?_;rintro e w4 ⟨rfl,a3⟩;have a9:=a4.mv a3 (by omega);obtain⟨x0,x1,x2,x3,d0,d1,d2,d3,f0,f1,f2,f3⟩:=a9.cells))
  exact bodyPost_ret (v:=Dw k ⟨t.toArray⟩ m i) (by simp[results,results66,go_sem,d0,d1,d2,d3,Dw]) rfl (TokPost.ok rfl rfl ((a3.past a6).set4 (AD _) _ _ _ _))
 .have a0:AA 101 #[pt b 0] w3 λ e w'=>e=.panicked (Dm (i+o) er)/\∃j,Mv b j w3 w':=a0
  go_wp2_with (first
   |(go_at_call 100;refine (isLetter_any _ _).mono ?_;rw[hl];rintro e w9 ⟨rfl,rfl⟩)
   |(go_at_call 101;refine a0.mono ?_;rintro e w4 ⟨rfl,j4,a3⟩))
  exact⟨rfl,TokPost.bad rfl rfl ⟨_,a3.past a6⟩⟩
theorem O4(b:Nat)(s:ByteArray)(i:Nat)(w:World)(h:At b s i w)(hs:s.size<=16384)(hi:i<s.size)(hl:Lx.isLetter s[i]=false)(hd:Lx.isDigit s[i]=true)
  (res:Lx.R) (hcall:∀w1,Below w w w1->AA 103 #[pt b 0] w1 λ e w'=>TokPost res b i w1 e w') :
  AA 66 #[pt b 0] w λ e w'=>TokPost res b i w e w':=by
 have aa:s.size<=maxLen:=by unfold maxLen;omega
 have a5:Below w w (w.alloc C8):=(AF _ _).alloc (AD _) _;have a7:=h.below a5 h.there;have a8:=Dx.new w;have ab:=h.there;go_enter func66,ntmps66;go_wp2_with fail;generalize w.alloc C8=w1 at *;refine (F2 b s i _ a7 aa hi).mono ?_;rintro e w2 ⟨rfl,n2,rfl⟩;obtain⟨t0,t1,t2,t3⟩:=a7;go_wp2_with fail
 go_quiet (fail)
 have a4:Dx w ((w1.drewN n2).drewN nq):=a8;have a6:Below w w ((w1.drewN n2).drewN nq):=below_drewN (below_drewN a5 _) _;generalize (w1.drewN n2).drewN nq=w3 at *;clear a8 a5 t0 t1 t2 t3;have a0:=hcall w3 a6;clear hcall;rcases res with⟨k,t,m,n⟩ | ⟨o,er⟩
 .have a0:AA 103 #[pt b 0] w3 λ e w'=>e=.returned (Dw k ⟨t.toArray⟩ m i)/\Mv b (i+n) w3 w':=a0
  go_wp2_with (first
   |(go_at_call 100;refine (isLetter_any _ _).mono ?_;rw[hl];rintro e w9 ⟨rfl,rfl⟩)
   |(go_at_call 102;refine (isDigit_any _ _).mono ?_;rw[hd];rintro e w9 ⟨rfl,rfl⟩)
   |(go_at_call 103;refine a0.mono ?_;rintro e w4 ⟨rfl,a3⟩;have a9:=a4.mv a3 (by omega);obtain⟨x0,x1,x2,x3,d0,d1,d2,d3,f0,f1,f2,f3⟩:=a9.cells))
  exact bodyPost_ret (v:=Dw k ⟨t.toArray⟩ m i) (by simp[results,results66,go_sem,d0,d1,d2,d3,Dw]) rfl (TokPost.ok rfl rfl ((a3.past a6).set4 (AD _) _ _ _ _))
 .have a0:AA 103 #[pt b 0] w3 λ e w'=>e=.panicked (Dm (i+o) er)/\∃j,Mv b j w3 w':=a0
  go_wp2_with (first
   |(go_at_call 100;refine (isLetter_any _ _).mono ?_;rw[hl];rintro e w9 ⟨rfl,rfl⟩)
   |(go_at_call 102;refine (isDigit_any _ _).mono ?_;rw[hd];rintro e w9 ⟨rfl,rfl⟩)
   |(go_at_call 103;refine a0.mono ?_;rintro e w4 ⟨rfl,j4,a3⟩))
  exact⟨rfl,TokPost.bad rfl rfl ⟨_,a3.past a6⟩⟩
theorem To(b:Nat)(s:ByteArray)(i:Nat)(w:World)(h:At b s i w)(hs:s.size<=16384)(hi:i<s.size)(hl:Lx.isLetter s[i]=false)(hd:Lx.isDigit s[i]=false)(hk:¬(s[i].toNat:Int)=34)
  (res:Lx.R) (hcall:∀w1,Below w w w1->AA 105 #[pt b 0] w1 λ e w'=>TokPost res b i w1 e w') :
  AA 66 #[pt b 0] w λ e w'=>TokPost res b i w e w':=by
 have aa:s.size<=maxLen:=by unfold maxLen;omega
 have a5:Below w w (w.alloc C8):=(AF _ _).alloc (AD _) _;have a7:=h.below a5 h.there;have a8:=Dx.new w;have ab:=h.there;go_enter func66,ntmps66;go_wp2_with fail;generalize w.alloc C8=w1 at *;refine (F2 b s i _ a7 aa hi).mono ?_;rintro e w2 ⟨rfl,n2,rfl⟩;obtain⟨t0,t1,t2,t3⟩:=a7;go_wp2_with fail
 go_quiet (fail)
 have a4:Dx w ((w1.drewN n2).drewN nq):=a8;have a6:Below w w ((w1.drewN n2).drewN nq):=below_drewN (below_drewN a5 _) _;generalize (w1.drewN n2).drewN nq=w3 at *;clear a8 a5 t0 t1 t2 t3;have a0:=hcall w3 a6;clear hcall;rcases res with⟨k,t,m,n⟩ | ⟨o,er⟩
 .have a0:AA 105 #[pt b 0] w3 λ e w'=>e=.returned (Dw k ⟨t.toArray⟩ m i)/\Mv b (i+n) w3 w':=a0
  go_wp2_with (first
   |(go_at_call 100;refine (isLetter_any _ _).mono ?_;rw[hl];rintro e w9 ⟨rfl,rfl⟩)
   |(go_at_call 102;refine (isDigit_any _ _).mono ?_;rw[hd];rintro e w9 ⟨rfl,rfl⟩)
   |(go_at_call 105;refine a0.mono ?_;rintro e w4 ⟨rfl,a3⟩;have a9:=a4.mv a3 (by omega);obtain⟨x0,x1,x2,x3,d0,d1,d2,d3,f0,f1,f2,f3⟩:=a9.cells))
  exact bodyPost_ret (v:=Dw k ⟨t.toArray⟩ m i) (by simp[results,results66,go_sem,d0,d1,d2,d3,Dw]) rfl (TokPost.ok rfl rfl ((a3.past a6).set4 (AD _) _ _ _ _))
 .have a0:AA 105 #[pt b 0] w3 λ e w'=>e=.panicked (Dm (i+o) er)/\∃j,Mv b j w3 w':=a0
  go_wp2_with (first
   |(go_at_call 100;refine (isLetter_any _ _).mono ?_;rw[hl];rintro e w9 ⟨rfl,rfl⟩)
   |(go_at_call 102;refine (isDigit_any _ _).mono ?_;rw[hd];rintro e w9 ⟨rfl,rfl⟩)
   |(go_at_call 105;refine a0.mono ?_;rintro e w4 ⟨rfl,j4,a3⟩))
  exact⟨rfl,TokPost.bad rfl rfl ⟨_,a3.past a6⟩⟩
theorem Xm(b:Nat)(s:ByteArray)(w:World)(h:At b s s.size w)(hs:s.size<=16384) :
  AA 66 #[pt b 0] w λ e w'=>TokPost (Lx.R.ok 5 [] 0 0) b s.size w e w':=by
 have a6:s.size<=maxLen:=by unfold maxLen;omega
 have a3:Below w w (w.alloc C8):=(AF _ _).alloc (AD _) _;have a0:=h.below a3 h.there;have a5:=Dx.new w;have a7:=h.there;have a4:=(Mv.refl h).below' a3 (AD _);go_enter func66,ntmps66;go_wp2_with fail;generalize w.alloc C8=w1 at *;refine (M9 b s _ a0 a6).mono ?_;rintro e w2 ⟨rfl,n2,rfl⟩;obtain⟨t0,t1,t2,t3⟩:=a0;obtain⟨x0,x1,x2,x3,d0,d1,d2,d3,f0,f1,f2,f3⟩:=a5.cells;go_wp2;exact bodyPost_ret (v:=Dw 5 ⟨#[]⟩ 0 s.size) (by simp[results,results66,go_sem,d0,d1,d2,d3,Dw]) rfl (TokPost.ok rfl rfl ((a4.below' (below_drewN (AF _ _) _) (AD _)).set4 (AD _) _ _ _ _))
theorem Xn(b:Nat)(s:ByteArray)(i:Nat)(w:World)(h:At b s i w)(a3:Env w)(a6:2≠b)(hs:s.size<=16384)(hq:(34:UInt8) ∉ s.data.toList)(hi:i<=s.size) :
  AA 66 #[pt b 0] w λ e w'=>TokPost (Lx.tokR dotC (s.data.toList.drop i)) b i w e w':=by
 by_cases hend:i=s.size
 .subst hend;rw[Kz];exact Xm b s w h hs
 .have a0:i<s.size:=by omega
  have a4:=D7 s i a0;have a5:∀w1,Below w w w1->At b s i w1:=λ w1 hb=>h.below hb h.there
  have a7:∀w1,Below w w w1->Env w1:=λ w1 hb=>a3.below hb a3.lt
  rcases hl:Lx.isLetter s[i] with _ | _
  .rcases hd:Lx.isDigit s[i] with _ | _
   .by_cases hk:s[i]=34
    .exact absurd (mem_of_mem_drop (i:=i) (by rw[a4,hk];exact AC)) hq
    .have e:Lx.tokR dotC (s.data.toList.drop i)=Lx.markR dotC (s.data.toList.drop i):=by
      rw[a4];simp only[Lx.tokR,hl,hd,Bool.false_eq_true,if_false,if_neg hk]
     rw[e];exact To b s i w h hs a0 hl hd (λ a=>hk (UInt8.toNat_inj.1 (by show s[i].toNat=34;omega))) _ λ w1 hb=>Zq b s i w1 (a5 w1 hb) hs a0
   .have e:Lx.tokR dotC (s.data.toList.drop i)=Lx.numberR (s.data.toList.drop i):=by
     rw[a4];simp only[Lx.tokR,hl,hd,Bool.false_eq_true,if_false,if_true]
    rw[e];exact O4 b s i w h hs a0 hl hd _ λ w1 hb=>Tm b s i w1 (a5 w1 hb) (a7 w1 hb) a6 hs a0 hd
  .have e:Lx.tokR dotC (s.data.toList.drop i)=Lx.nameR (s.data.toList.drop i):=by
    rw[a4];simp only[Lx.tokR,hl,if_true]
   rw[e];exact Tn b s i w h hs a0 hl _ λ w1 hb=>Zp b s i w1 (a5 w1 hb) hs a0
def E5(t:Lx.Tok):List Value:=[iv t.kind,.string ⟨t.text.toArray⟩,iv t.num,iv t.place]
def Dy(ts:List Lx.Tok):List Value:=ts.flatMap E5
theorem Tp(ts:List Lx.Tok)(t:Lx.Tok):Dy (ts ++ [t])=Dy ts ++ E5 t:=by simp[Dy]
theorem Vt{base n R:Nat}{e:TypeId}(h:w.ownsRow base e sz v n xs)(m:Mv R j w w1)(hR:R<base):w1.ownsRow base e sz v n xs:=by
 obtain⟨h1,h2⟩:=h;refine⟨h1,?_⟩;rcases h2 with h2 | ⟨g,cap,cur,hv,hg,hh,r⟩
 .exact AI h2
 .exact AJ ⟨g,cap,cur,hv,hg,(m.kept (AB hh).1 (by omega)).trans hh,r⟩
theorem Nd{base base' n:Nat}{e:TypeId}(h:w.ownsRow base e sz v n xs)(hb:base'<=base):w.ownsRow base' e sz v n xs:=by
 obtain⟨h1,h2⟩:=h;refine⟨h1,?_⟩;rcases h2 with h2 | ⟨g,cap,cur,hv,hg,hh,r⟩
 .exact AI h2
 .exact AJ ⟨g,cap,cur,hv,by omega,hh,r⟩
theorem Bi:∀(N:Nat) (l:AQ) (o:Nat) (acc:AQ) (k:Nat) (t:AQ) (m n:Nat),l.length<=N->Lx.quoteR l o acc=Lx.R.ok k t m n->k=3/\m=0/\o+1<=n/\n<=o+l.length
 | N,[],o,acc,k,t,m,n,_,h=>by simp[Lx.quoteR,Lx.R.bad,Lx.R.ok] at h
 | 0,c :: r,o,acc,k,t,m,n,hN,h=>by simp at hN
 | N+1,c :: r,o,acc,k,t,m,n,hN,h=>by
  rw[Cf] at h;simp only[length_cons] at hN ⊢;split at h
  .split at h
   .simp[Lx.R.ok] at h;omega
   .simp[Lx.R.ok,Lx.R.bad] at h
  .split at h
   .split at h
    .simp[Lx.R.ok,Lx.R.bad] at h
    .split at h
     .rename_i d r' _;have:=Bi N r' (o+2) _ k t m n (by simp at hN;omega) h;simp;omega
     .simp[Lx.R.ok,Lx.R.bad] at h
   .split at h
    .have:=Bi N r (o+1) _ k t m n (by omega) h;omega
    .simp[Lx.R.ok,Lx.R.bad] at h
theorem B4{dot:Bool}{c:UInt8}{r:AQ}{k:Nat}{t:AQ}{n:Nat}(h:Lx.tokR dot (c :: r)=Lx.R.ok k t m n):k≠5/\1<=n/\n<=r.length+1:=by
 simp only[Lx.tokR] at h;split at h
 .rename_i hl;have hp:Lx.isPart c=true:=by simp[Lx.isPart,hl]
  have a0:=Lx.tw_le (p:=Lx.isPart) (c :: r);unfold Lx.nameR at h;split at h
  .simp only[Lx.R.ok,Sum.inl.injEq,Prod.mk.injEq] at h;obtain⟨rfl,_,_,rfl⟩:=h;refine⟨by decide,?_,by simpa using a0⟩;rw[takeWhile_cons_of_pos hp];simp
  .simp[Lx.R.ok,Lx.R.bad] at h
 .split at h
  .rename_i hd;have a0:=Lx.tw_le (p:=Lx.isDigit) (c :: r);unfold Lx.numberR at h;split at h
   .simp[Lx.R.ok,Lx.R.bad] at h
   .split at h
    .simp only[Lx.R.ok,Sum.inl.injEq,Prod.mk.injEq] at h;obtain⟨rfl,_,_,rfl⟩:=h;refine⟨by decide,?_,by simpa using a0⟩;rw[takeWhile_cons_of_pos hd];simp
    .simp[Lx.R.ok,Lx.R.bad] at h
  .split at h
   .have:=Bi r.length r 1 [] k t m n (AD _) h;omega
   .unfold Lx.markR at h;split at h
    .simp[Lx.R.ok,Lx.R.bad] at h
    .rename_i hz;have a0:=Vr dot (c :: r);simp only[Lx.R.ok,Sum.inl.injEq,Prod.mk.injEq] at h;obtain⟨rfl,_,_,rfl⟩:=h;exact⟨by decide,by omega,by simpa using a0⟩
theorem As9{c:Nat}{dot:Bool}(h:i+gap s i=s.size):Lx.lexGo dot (s.data.toList.drop i) i c=if c<4096 then .inl [⟨5,[],0,s.size⟩] else .inr (s.size,36):=by
 rw[Lx.lexGo_end (by rw[drop_drop];show List.drop (i+gap s i) _=[];rw[h];exact Kz s)];show (if c<4096 then _ else _)=_;have e:i+Lx.skipF false (s.data.toList.drop i)=s.size:=h;rw[e]
theorem Zr(a0:i+gap s i<s.size):(s.data.toList.drop i).drop (Lx.skipF false (s.data.toList.drop i))=s[i+gap s i] :: s.data.toList.drop (i+gap s i+1):=by
 rw[drop_drop];exact D7 s (i+gap s i) a0
theorem At0{c o er:Nat}{dot:Bool}(a0:i+gap s i<s.size)(ht:Lx.tokR dot (s.data.toList.drop (i+gap s i))=Lx.R.bad o er):Lx.lexGo dot (s.data.toList.drop i) i c=.inr (i+gap s i+o,er):=by
 rw[D7 s _ a0] at ht;exact Lx.lexGo_bad (Zr a0) ht
theorem Ay3{c k:Nat}{t:AQ}{n:Nat}{dot:Bool}(a0:i+gap s i<s.size)(ht:Lx.tokR dot (s.data.toList.drop (i+gap s i))=Lx.R.ok k t m n) :
  Lx.lexGo dot (s.data.toList.drop i) i c=if c<4096 then Lx.Out.pre [(⟨k,t,m,i+gap s i⟩:Lx.Tok)] (Lx.lexGo dot (s.data.toList.drop (i+gap s i+n)) (i+gap s i+n) (c+1)) else .inr (i+gap s i,36):=by
 rw[D7 s _ a0] at ht;have hn:=(B4 ht).2.1;rw[Lx.lexGo_ok (Zr a0) ht hn,drop_drop];show (if c<4096 then _ else _)=_;unfold gap;rw[<-Nat.add_assoc]
def Al4(res:Lx.Out)(w:World)(e:Ending)(w':World):Prop:=
 match res with
 | .inl ts=>(∃v,e=.returned v/\w'.ownsRow w 93 4 v ts.length (Dy ts))/\Below w w w'
 | .inr (a,er)=>e=.panicked (Dm a er)/\Below w w w'
structure Tk(s:ByteArray)(w:World)(i:Nat)(ts:List Lx.Tok)(v:Value)(wr:World):Prop where
 rd:At w s i wr
 env:Env wr
 own:wr.ownsRow (w.heap.size+1) 93 4 v ts.length (Dy ts)
 old:Below w w wr
 le:i<=s.size
 few:ts.length<=4096
theorem Mv.older(h:Below b w w1)(m:Mv b j w1 w2)(hb:b<w1):Below b w w2:=
 h.trans ((AF b w1).setCell (p:=⟨b,1,none⟩) (AD _) (iv (j:Int)) |>.trans (m.mono (by omega)))
theorem Tk.move{ts:List Lx.Tok}(h:Tk s w i ts v wr)(a0:Env w)(m:Mv w j wr w1)(hj:j<=s.size):Tk s w j ts v w1:=
 ⟨h.rd.move m,h.env.mv m (by have:=a0.lt;omega),Vt h.own m (by omega),Mv.older h.old m h.rd.there,hj,h.few⟩
theorem Tq(s:ByteArray)(w:World)(a4:Env w)(hs:s.size<=16384)(hq:(34:UInt8) ∉ s.data.toList) :
  AA 40 #[.string s] w λ e w'=>Al4 (Lx.lexGo dotC s.data.toList 0 0) w e w':=by
 have az:s.size<=maxLen:=by unfold maxLen;omega
 obtain⟨res,a0⟩:∃res,Aside (res=Lx.lexGo dotC s.data.toList 0 0):=⟨_,rfl⟩;rw[<-a0.out];go_enter func40,ntmps40;go_wp2_with fail
 go_loopg [4] (s.size+1) (λ g v wr=>∃i ts,g=s.size+1 - i/\Tk s w i ts v wr/\Aside (res=Lx.Out.pre ts (Lx.lexGo dotC (s.data.toList.drop i) i ts.length)))
 case atStart=>
  have ak:Below w w (w.alloc (.cells #[.string s,iv 0] 115)):=(AF _ _).alloc (AD _) _;refine⟨0,[],by omega,⟨⟨by simp,by simp,by simp,by simp⟩,a4.below ak a4.lt,⟨rfl,AI ⟨rfl,rfl⟩⟩,ak,AO _,by simp⟩,?_⟩;show _=_;rw[a0.out,Lx.pre_nil];rfl
 case round=>
  clear a0;obtain⟨i,ts,rfl,hk,hr⟩:=hrel;have am:=Tj s i hk.le;have ag:=Zk w s i wr hk.rd az hk.le;have ar:2≠w.heap.size:=by have:=a4.lt;omega
  obtain⟨i0,aw,hz⟩:=Option.map_eq_some_iff.1 (show (prog.info? 93).map (λ i=>(i.zero,i.size,i.bytes))=some (some (.agg #[iv 0,sE,iv 0,iv 0]),4,40) by kernel_rfl);simp only[Prod.mk.injEq] at hz;obtain⟨av,ax,ay⟩:=hz;go_wp2_with (go_at_call 65;refine ag.mono ?_;rintro e w1 ⟨rfl,ai⟩);have a3:=hk.move a4 ai am;clear ag ai;obtain⟨ao,cap,rfl⟩:∃ao cap,u4=.slice ao ts.length cap:=by
   rcases a3.own.2 with⟨hv,h0⟩ | ⟨g,cap,cur,hv,_⟩
   .exact⟨none,0,by rw[hv,h0]⟩
   .exact⟨_,_,hv⟩
  have a8:=Xn w s _ w1 a3.rd a3.env ar hs hq am;have aq:i<=i+gap s i:=Nat.le_add_right _ _;have a7:Aside ((∃o er,i+gap s i<s.size/\Lx.tokR dotC (s.data.toList.drop (i+gap s i))=Lx.R.bad o er/\res=.inr (i+gap s i+o,er)) \/
    (∃k t m n,i+gap s i+n<=s.size/\Lx.tokR dotC (s.data.toList.drop (i+gap s i))=Lx.R.ok k t m n/\(¬ts.length<4096->res=.inr (i+gap s i,36)) /\
     (ts.length<4096->(k=5/\res=.inl (ts ++ [(⟨k,t,m,i+gap s i⟩:Lx.Tok)]))\/(k≠5/\1<=n/\res=Lx.Out.pre (ts ++ [(⟨k,t,m,i+gap s i⟩:Lx.Tok)]) (Lx.lexGo dotC (s.data.toList.drop (i+gap s i+n)) (i+gap s i+n) (ts ++ [(⟨k,t,m,i+gap s i⟩:Lx.Tok)]).length))))):=by
   show _\/_;have hr:=hr.out;by_cases hend:i+gap s i=s.size
   .right;rw[As9 hend] at hr;refine⟨5,[],0,0,by omega,by rw[hend,Kz];rfl,?_,?_⟩
    .intro h;rw[if_neg h] at hr;rw[hr,hend];rfl
    .intro h;rw[if_pos h] at hr;exact AI ⟨rfl,by rw[hr,hend];rfl⟩
   .have ab:i+gap s i<s.size:=by omega
    rcases ht:Lx.tokR dotC (s.data.toList.drop (i+gap s i)) with⟨k,t,m,n⟩ | ⟨o,er⟩
    .right;have af:=B4 (by rw[<-D7 s _ ab];exact ht);rw[Ay3 ab ht] at hr;have hl:(s.data.toList.drop (i+gap s i+1)).length+1=s.size - (i+gap s i):=by simp;omega
     refine⟨k,t,m,n,by omega,rfl,?_,?_⟩
     .intro h;rw[if_neg h] at hr;rw[hr];rfl
     .intro h;rw[if_pos h,Lx.pre_pre] at hr;exact AJ ⟨af.1,af.2.1,by rw[hr];simp⟩
    .left;rw[At0 ab ht] at hr;exact⟨o,er,ab,rfl,by rw[hr];rfl⟩
  generalize i+gap s i=j at *;rcases a7.out with⟨o,er,ab,ht,a0⟩ | ⟨k,t,m,n,al,ht,a6,a5⟩
  .rw[ht] at a8;replace a8:AA 66 #[pt w 0] w1 λ e w'=>e=.panicked (Dm (j+o) er)/\∃j',Mv w j' w1 w':=a8
   replace a0:=(show Aside _ from a0);clear a7 ht hr hk;go_wp2_with (go_at_call 66;refine a8.mono ?_;rintro e w2 ⟨rfl,j2,a9⟩);refine⟨rfl,?_⟩;rw[a0.out];exact⟨rfl,Mv.older a3.old a9 a3.rd.there⟩
  .rw[ht] at a8;replace a8:AA 66 #[pt w 0] w1 λ e w'=>e=.returned (Dw k ⟨t.toArray⟩ m j)/\Mv w (j+n) w1 w':=a8
   clear a7 ht hr hk;by_cases hc:ts.length<4096
   .replace a5:=(show Aside _ from a5 hc);clear a6;have b4:¬(ts.length:Int)=4096:=by omega
    go_wp2_with (first
     |(go_at_call 66;refine a8.mono ?_;rintro e w2 ⟨rfl,a9⟩)
     |(at_builtin;refine wpList_append_own _ rfl _ _ 49 rfl (w.heap.size+1) 93 i0 (.agg #[iv 0,sE,iv 0,iv 0]) 4 40 underlying49 aw av ax ay rfl (by decide) _ ts.length _ rfl (((Vt a3.own a9 (by omega)).alloc _).alloc _) ⟨w2.heap.size+1,0,none⟩ 1 1 [iv k,.string ⟨t.toArray⟩,iv m,iv j] rfl rfl ?c1 ?c2 ?c3 ?c4 ?c5 ?_))
    case c1=>
     intro x u hx
     match x,hx with
     | 0,hx=>simp at hx;subst hx;simp[Addr.add]
     | 1,hx=>simp at hx;subst hx;simp[Addr.add]
     | 2,hx=>simp at hx;subst hx;simp[Addr.add]
     | 3,hx=>simp at hx;subst hx;simp[Addr.add]
    case c2=>intro u hu;simp at hu;rcases hu with rfl | rfl | rfl | rfl <;> rfl
    case c3=>unfold maxLen;omega
    case c4=>omega
    case c5=>have h1:=a9.size;have h2:=a3.rd.there;simp;omega
    intro v' w3 hown hgrow hnil;clear hnil;have aa:=a3.move a4 a9 al;have ae:=aa.rd.there;have hB:Below (w.heap.size+1) w2 w3:=(((AF (w.heap.size+1) w2).alloc ae _).alloc (by simp;omega) _).grown hgrow (by simp;omega) (λ x hx=>(aa.own.lt x hx).1);have ad:Tk s w (j+n) (ts ++ [⟨k,t,m,j⟩]) v' w3:=
     ⟨aa.rd.below hB (by omega),aa.env.below hB (by have:=a4.lt;omega),by simpa [Tp,E5] using hown,aa.old.trans (hB.mono (by omega)),al,by simp;omega⟩
    have aj:w3.cell? w2=iv k:=by
     rw[World.cell?_of_block (hgrow.block w2 (by simp;omega) (λ e=>by have:=(aa.own.lt _ e.symm).2;omega))];simp
    clear hown hgrow a8 a3 a9 hB;rcases a5.out with⟨ah,a0⟩ | ⟨ah,b3,a0⟩
    .have a0:Aside _:=(show Aside _ from a0);clear a5;subst ah;go_wp2;go_ret;rw[a0.out];exact⟨⟨v',rfl,Nd ad.own (by omega)⟩,ad.old⟩
    .have a0:Aside _:=(show Aside _ from a0);have au:¬(k:Int)=5:=by omega
     clear a5;go_wp2;go_roundg (s.size+1 - (j+n))
     case measure=>omega
     case rel=>exact⟨j+n,ts ++ [⟨k,t,m,j⟩],rfl,ad,a0⟩
   .have a0:Aside _:=(show Aside _ from a6 hc);have b0:((ts.length:Int) == 4096)=true:=by have:=a3.few;simp;omega
    clear a6 a5 hc;go_wp2_with (first
     |(go_at_call 66;refine a8.mono ?_;rintro e w2 ⟨rfl,a9⟩)
     |(go_at_call 67;refine (Dn j 36 _).mono ?_;rintro e w3 ⟨rfl,rfl⟩))
    refine⟨rfl,?_⟩;rw[a0.out];exact⟨rfl,(Mv.older a3.old a9 a3.rd.there).alloc (by have:=a9.size;have:=a3.rd.there;omega) _⟩
end
section
namespace Px
open Lx (Tok B)
inductive Ex where
 | mk (kind op num:Nat) (text:B) (args:List Ex) (place:Nat)
structure Sl where
 name:B
 type:B
 place:Nat
inductive St where
 | mk (kind:Nat) (name:B) (es:List Ex) (body other:List St) (place:Nat)
structure Fn where
 name:B
 on:Bool
 params:List Sl
 result:B
 body:List St
 place:Nat
structure Pr where
 version:Nat
 states:List Sl
 fns:List Fn
abbrev R(α:Type):=(α × List Tok) ⊕ (Nat × Nat)
abbrev P(α:Type):=List Tok->R α
def place:List Tok->Nat
 | t :: _=>t.place
 | []=>0
def fail{α:Type}(e:Nat)(l:List Tok):R α:=.inr (place l,e)
def bind{α β:Type}(r:R α)(f:α->List Tok->R β):R β:=
 match r with
 | .inl (x,l)=>f x l
 | .inr e=>.inr e
def sees(k:Nat)(x:B):List Tok->Bool
 | t :: _=>t.kind == k && t.text == x
 | []=>false
def words:List B:=[[118,101,114,115,105,111,110],[115,116,97,116,101],[102,110],[111,110],[108,101,116],[115,101,116],[100,101,108],[105,102],[101,108,115,101],[102,111,114],[116,111],[114,101,116],[116,114,117,101],[102,97,108,115,101],[105,110,116],[98,111,111,108],[116,101,120,116]]
def reserved(x:B):Bool:=words.contains x
def needK(k:Nat)(x:B)(l:List Tok):R Unit:=if sees k x l then .inl ((),l.tail) else fail 31 l
def need(x:B)(l:List Tok):R Unit:=needK 4 x l
def name(l:List Tok):R Tok:=
 match l with
 | t :: r=>if t.kind=1/\reserved t.text=false then .inl (t,r) else fail 31 l
 | []=>fail 31 l
def number(l:List Tok):R Nat:=
 match l with
 | t :: r=>if t.kind=2 then .inl (t.num,r) else fail 31 l
 | []=>fail 31 l
def key(l:List Tok):R B:=if sees 1 [105,110,116] l then .inl ([105,110,116],l.tail) else if sees 1 [116,101,120,116] l then .inl ([116,101,120,116],l.tail) else fail 31 l
def typ:Nat->P B
 | 0,l=>fail 32 l
 | k+1,l=>
  if sees 1 [105,110,116] l then .inl ([105,110,116],l.tail)
  else if sees 1 [98,111,111,108] l then .inl ([98,111,111,108],l.tail)
  else if sees 1 [116,101,120,116] l then .inl ([116,101,120,116],l.tail)
  else if sees 4 [91] l then bind (typ k l.tail) λ t l1=>bind (need [93] l1) λ _ l2=>.inl ([91] ++ t ++ [93],l2)
  else if sees 4 [123] l then bind (key l.tail) λ a l1=>bind (need [58] l1) λ _ l2=>bind (typ k l2) λ t l3=>bind (need [125] l3) λ _ l4=>.inl ([123] ++ a ++ [58] ++ t ++ [125],l4)
  else fail 31 l
def slot(l:List Tok):R Sl:=bind (name l) λ t l1=>bind (need [58] l1) λ _ l2=>bind (typ 4 l2) λ y l3=>.inl (⟨t.text,y,t.place⟩,l3)
def sep(n:Nat)(l:List Tok):R Unit:=if n=0 then .inl ((),l) else need [44] l
def items{α:Type}(q:P α):Nat->Nat->List α->P (List α)
 | 0,_,_,_=>.inr (0,0)
 | f+1,n,acc,l=>if sees 4 [41] l then .inl (acc,l.tail) else bind (sep n l) λ _ l1=>bind (q l1) λ x l2=>items q f (n+1) (acc ++ [x]) l2
def levelOf(t:Tok):Nat × Nat:=
 if t.kind=4 then
  if t.text=[124,124] then (1,1) else if t.text=[38,38] then (2,2)
  else if t.text=[61,61] then (3,3) else if t.text=[33,61] then (3,4) else if t.text=[60] then (3,5) else if t.text=[60,61] then (3,6) else if t.text=[62] then (3,7) else if t.text=[62,61] then (3,8)
  else if t.text=[43] then (4,9) else if t.text=[45] then (4,10)
  else if t.text=[42] then (5,11) else if t.text=[47] then (5,12) else if t.text=[37] then (5,13) else (0,0)
 else (0,0)
def chain(n:Nat)(q:P Ex):Nat->Nat->Ex->P Ex
 | 0,_,_,_=>.inr (0,0)
 | _+1,_,_,[]=>.inr (0,0)
 | f+1,c,acc,t :: r=>
  if (levelOf t).1=n then
   if n=3/\0<c then fail 31 (t :: r)
   else bind (q r) λ x l1=>chain n q f (c+1) (.mk 15 (levelOf t).2 0 [] [acc,x] t.place) l1
  else .inl (acc,t :: r)
def level(n:Nat)(q:P Ex)(l:List Tok):R Ex:=bind (q l) λ x l1=>chain n q (l1.length+1) 0 x l1
def lvl(q:P Ex):P Ex:=level 1 (level 2 (level 3 (level 4 (level 5 q))))
def ats(e:P Ex):Nat->Ex->P Ex
 | 0,_,_=>.inr (0,0)
 | f+1,acc,l=>if sees 4 [91] l then bind (e l.tail) λ x l1=>bind (need [93] l1) λ _ l2=>ats e f (.mk 12 0 0 [] [acc,x] (place l)) l2 else .inl (acc,l)
def primary(e:P Ex)(l:List Tok):R Ex:=
 match l with
 | []=>fail 31 l
 | t :: r=>
  if t.kind=2 then .inl (.mk 1 0 t.num [] [] t.place,r)
  else if t.kind=3 then .inl (.mk 3 0 0 t.text [] t.place,r)
  else if sees 1 [116,114,117,101] l then .inl (.mk 2 0 1 [] [] t.place,r)
  else if sees 1 [102,97,108,115,101] l then .inl (.mk 2 0 0 [] [] t.place,r)
  else if sees 4 [40] l then bind (e r) λ x l1=>bind (need [41] l1) λ _ l2=>.inl (x,l2)
  else bind (name l) λ t l1=>if sees 4 [40] l1 then bind (items e (l1.length+1) 0 [] l1.tail) λ xs l2=>.inl (.mk 7 0 0 t.text xs t.place,l2) else .inl (.mk 6 0 0 t.text [] t.place,l1)
def unary:Nat->P Ex
 | 0,l=>fail 32 l
 | k+1,l=>
  if sees 4 [45] l then bind (unary k l.tail) λ x l1=>.inl (.mk 13 0 0 [] [x] (place l),l1)
  else if sees 4 [33] l then bind (unary k l.tail) λ x l1=>.inl (.mk 14 0 0 [] [x] (place l),l1)
  else bind (primary (lvl (unary k)) l) λ x l1=>ats (lvl (unary k)) (l1.length+1) x l1
def Mq(k:Nat):P Ex:=lvl (unary k)
def opt(e:P Ex)(l:List Tok):R (List Ex):=if sees 4 [91] l then bind (e l.tail) λ x l1=>bind (need [93] l1) λ _ l2=>.inl ([x],l2) else .inl ([],l)
def other(blk:P (List St))(l:List Tok):R (List St):=if sees 1 [101,108,115,101] l then blk l.tail else .inl ([],l)
def stmt(e:P Ex)(blk:P (List St))(l:List Tok):R St:=
 if sees 1 [108,101,116] l then bind (name l.tail) λ t l1=>bind (need [61] l1) λ _ l2=>bind (e l2) λ x l3=>bind (need [59] l3) λ _ l4=>.inl (.mk 1 t.text [x] [] [] (place l),l4)
 else if sees 1 [115,101,116] l then bind (name l.tail) λ t l1=>bind (opt e l1) λ xs l2=>bind (need [61] l2) λ _ l3=>bind (e l3) λ x l4=>bind (need [59] l4) λ _ l5=>.inl (.mk 2 t.text (xs ++ [x]) [] [] (place l),l5)
 else if sees 1 [100,101,108] l then bind (name l.tail) λ t l1=>bind (need [91] l1) λ _ l2=>bind (e l2) λ x l3=>bind (need [93] l3) λ _ l4=>bind (need [59] l4) λ _ l5=>.inl (.mk 3 t.text [x] [] [] (place l),l5)
 else if sees 1 [105,102] l then bind (e l.tail) λ x l1=>bind (blk l1) λ b l2=>bind (other blk l2) λ c l3=>.inl (.mk 4 [] [x] b c (place l),l3)
 else if sees 1 [102,111,114] l then bind (name l.tail) λ t l1=>bind (needK 1 [116,111] l1) λ _ l2=>bind (e l2) λ x l3=>bind (blk l3) λ b l4=>.inl (.mk 5 t.text [x] b [] (place l),l4)
 else if sees 1 [114,101,116] l then bind (e l.tail) λ x l1=>bind (need [59] l1) λ _ l2=>.inl (.mk 6 [] [x] [] [] (place l),l2)
 else fail 31 l
def stmts(q:P St):Nat->List St->P (List St)
 | 0,_,_=>.inr (0,0)
 | f+1,acc,l=>if sees 4 [125] l then .inl (acc,l.tail) else bind (q l) λ s l1=>stmts q f (acc ++ [s]) l1
def block:Nat->P (List St)
 | 0,l=>fail 32 l
 | k+1,l=>bind (need [123] l) λ _ l1=>stmts (stmt (Mq k) (block k)) (l1.length+1) [] l1
def function(on:Bool)(l:List Tok):R Fn:=bind (name l) λ t l1=>bind (need [40] l1) λ _ l2=>bind (items slot (l2.length+1) 0 [] l2) λ ps l3=>bind (need [58] l3) λ _ l4=>
 bind (typ 4 l4) λ y l5=>bind (block 24 l5) λ b l6=>.inl (⟨t.text,on,ps,y,b,t.place⟩,l6)
def parts:Nat->Pr->P Pr
 | 0,_,_=>.inr (0,0)
 | _+1,_,[]=>.inr (0,0)
 | f+1,p,t :: r=>
  if t.kind=5 then .inl (p,t :: r)
  else if sees 1 [115,116,97,116,101] (t :: r) then bind (slot r) λ s l1=>bind (need [59] l1) λ _ l2=>parts f { p with states:=p.states ++ [s] } l2
  else if sees 1 [102,110] (t :: r) then bind (function false r) λ g l1=>parts f { p with fns:=p.fns ++ [g] } l1
  else if sees 1 [111,110] (t :: r) then bind (function true r) λ g l1=>parts f { p with fns:=p.fns ++ [g] } l1
  else fail 31 (t :: r)
def program(l:List Tok):R Pr:=bind (needK 1 [118,101,114,115,105,111,110] l) λ _ l1=>bind (number l1) λ v l2=>bind (need [59] l2) λ _ l3=>parts (l3.length+1) ⟨v,[],[]⟩ l3
def parse(b:B):Pr ⊕ (Nat × Nat):=
 match Lx.lex true b with
 | .inr x=>.inr x
 | .inl ts=>
  match program ts with
  | .inl (p,_)=>.inl p
  | .inr x=>.inr x
/- How a reading goes on. -/
def Good:List Tok->Prop
 | []=>False
 | [t]=>t.kind=5
 | t :: u :: r=>t.kind≠5/\Good (u :: r)
theorem Good.tail{t:Tok}{r:List Tok}(h:Good (t :: r))(hk:t.kind≠5):Good r:=by
 match r,h with
 | [],h=>exact absurd h hk
 | u :: r,h=>exact h.2
theorem sees_head{k:Nat}{x:B}{l:List Tok}(h:sees k x l=true):∃t r,l=t :: r/\t.kind=k/\t.text=x:=by
 match l,h with
 | t :: r,h=>simp[sees] at h;exact⟨t,r,rfl,h.1,h.2⟩
structure Adv(n:Nat)(l l':List Tok):Prop where
 good:Good l'
 suf:l' <:+ l
 less:l'.length+n<=l.length
theorem Adv.refl{l:List Tok}(h:Good l):Adv 0 l l:=⟨h,suffix_refl _,by omega⟩
theorem Adv.trans{n:Nat}{l l1 l2:List Tok}(a:Adv m l l1)(b:Adv n l1 l2):Adv (m+n) l l2:=⟨b.good,b.suf.trans a.suf,by have:=a.less;have:=b.less;omega⟩
theorem Adv.mono{n:Nat}{l l1:List Tok}(a:Adv m l l1)(h:n<=m):Adv n l l1:=⟨a.good,a.suf,by have:=a.less;omega⟩
structure Res{α:Type}(n:Nat)(l:List Tok)(r:R α):Prop where
 ok:∀x l',r=.inl (x,l')->Adv n l l'
 bad:∀a e,r=.inr (a,e)->(∃t∈l,t.place=a)/\(e=31\/e=32)
theorem Res.pure{α:Type}{n:Nat}{l l':List Tok}{x:α}(h:Adv n l l'):Res n l (.inl (x,l')):=⟨λ y l2 e=>by simp at e;rw[<-e.2];exact h,λ a e h=>by simp at h⟩
theorem Res.fail{α:Type}{n e:Nat}{l:List Tok}(h:Good l)(he:e=31\/e=32):Res (α:=α) n l (fail e l):=by
 refine⟨λ x l' h=>by simp[Px.fail] at h,λ a e' h'=>?_⟩
 match l,h with
 | t :: r,_=>
  simp[Px.fail,place] at h';exact⟨⟨t,by simp,h'.1⟩,by rw[<-h'.2];exact he⟩
theorem Res.bind{α β:Type}{m n:Nat}{l:List Tok}{r:R α}{f:α->List Tok->R β}(h:Res m l r)(hf:∀x l',r=.inl (x,l')->Adv m l l'->Res n l' (f x l')):Res (m+n) l (bind r f):=by
 match r,h,hf with
 | .inl (x,l'),h,hf=>
  have ha:=h.ok x l' rfl;have hr:=hf x l' rfl ha;refine⟨λ y l2 e=>ha.trans (hr.ok y l2 e),λ a e h'=>?_⟩;obtain⟨⟨t,ht,hp⟩,he⟩:=hr.bad a e h';exact⟨⟨t,ha.suf.subset ht,hp⟩,he⟩
 | .inr (a,e),h,_=>exact⟨λ x l' h=>by simp[Px.bind] at h,λ a' e' h'=>h.bad a' e' (by simpa [Px.bind] using h')⟩
theorem Res.mono{α:Type}{n:Nat}{l:List Tok}{r:R α}(h:Res m l r)(hn:n<=m):Res n l r:=⟨λ x l' e=>(h.ok x l' e).mono hn,h.bad⟩
theorem Res.weak{α:Type}{l:List Tok}{r:R α}(h:Res m l r):Res 0 l r:=h.mono (AO _)
theorem Res.bind1{α β:Type}{l:List Tok}{r:R α}{f:α->List Tok->R β}(h:Res 1 l r)(hf:∀x l',r=.inl (x,l')->Adv 1 l l'->Res 0 l' (f x l')):Res 1 l (Px.bind r f):=h.bind hf
theorem Res.bind0{α β:Type}{l:List Tok}{r:R α}{f:α->List Tok->R β}(h:Res 0 l r)(hf:∀x l',r=.inl (x,l')->Adv 0 l l'->Res 0 l' (f x l')):Res 0 l (Px.bind r f):=h.bind hf
theorem Res.after{α:Type}{l l1:List Tok}{r:R α}(a:Adv 1 l l1)(h:Res 0 l1 r):Res 1 l r:=by
 refine⟨λ x l' e=>a.trans (h.ok x l' e),λ b e h'=>?_⟩;obtain⟨⟨t,ht,hp⟩,he⟩:=h.bad b e h';exact⟨⟨t,a.suf.subset ht,hp⟩,he⟩
theorem Res.here{α:Type}{l:List Tok}{x:α}(h:Good l):Res 0 l (.inl (x,l)):=Res.pure (Adv.refl h)
theorem sees_adv{k:Nat}{x:B}{l:List Tok}(h:sees k x l=true)(hg:Good l)(hk:k≠5):Adv 1 l l.tail:=by
 obtain⟨t,r,rfl,h1,_⟩:=sees_head h;exact⟨hg.tail (by omega),AE _ _,by simp⟩
theorem sees1{x:B}{l:List Tok}(h:sees 1 x l=true)(hg:Good l):Adv 1 l l.tail:=sees_adv h hg (by decide)
theorem sees4{x:B}{l:List Tok}(h:sees 4 x l=true)(hg:Good l):Adv 1 l l.tail:=sees_adv h hg (by decide)
theorem Gq{k:Nat}{x:B}{l:List Tok}(hg:Good l)(hk:k≠5):Res 1 l (needK k x l):=by
 unfold needK;split
 .rename_i h;exact Res.pure (sees_adv h hg hk)
 .exact Res.fail hg (AI rfl)
theorem need_res{x:B}{l:List Tok}(hg:Good l):Res 1 l (need x l):=Gq hg (by decide)
theorem name_res{l:List Tok}(hg:Good l):Res 1 l (name l):=by
 match l,hg with
 | t :: r,hg=>
  simp only[name];split
  .rename_i h;exact Res.pure ⟨hg.tail (by omega),AE _ _,by simp⟩
  .exact Res.fail hg (AI rfl)
theorem Tf{l:List Tok}(hg:Good l):Res 1 l (number l):=by
 match l,hg with
 | t :: r,hg=>
  simp only[number];split
  .rename_i h;exact Res.pure ⟨hg.tail (by omega),AE _ _,by simp⟩
  .exact Res.fail hg (AI rfl)
theorem Al1{l:List Tok}(hg:Good l):Res 1 l (key l):=by
 unfold key;split
 .rename_i h;exact Res.pure (sees1 h hg)
 .split
  .rename_i h;exact Res.pure (sees1 h hg)
  .exact Res.fail hg (AI rfl)
def Ok{α:Type}(q:P α):Prop:=∀l,Good l->Res 1 l (q l)
theorem Oy:∀k,Ok (typ k)
 | 0,l,hg=>Res.fail hg (AJ rfl)
 | k+1,l,hg=>by
  simp only[typ];split
  .rename_i h;exact Res.pure (sees1 h hg)
  split
  .rename_i h;exact Res.pure (sees1 h hg)
  split
  .rename_i h;exact Res.pure (sees1 h hg)
  split
  .rename_i h;have a:=sees4 h hg;exact Res.after a ((Oy k _ a.good).weak.bind0 λ t l1 _ a1=>(need_res a1.good).weak.bind0 λ _ l2 _ a2=>Res.here a2.good)
  split
  .rename_i h;have a:=sees4 h hg;exact Res.after a ((Al1 a.good).weak.bind0 λ t l1 _ a1=>(need_res a1.good).weak.bind0 λ _ l2 _ a2=>(Oy k _ a2.good).weak.bind0 λ _ l3 _ a3=>(need_res a3.good).weak.bind0 λ _ l4 _ a4=>Res.here a4.good)
  .exact Res.fail hg (AI rfl)
theorem slot_ok:Ok slot:=λ l hg=>(name_res hg).bind1 λ t l1 _ a1=>(need_res a1.good).weak.bind0 λ _ l2 _ a2=>(Oy 4 _ a2.good).weak.bind0 λ _ l3 _ a3=>Res.here a3.good
theorem sep_res{n:Nat}{l:List Tok}(hg:Good l):Res 0 l (sep n l):=by
 unfold sep;split
 .exact Res.here hg
 .exact (need_res hg).weak
theorem I2{α:Type}{q:P α}(hq:Ok q):∀(f n:Nat) (acc:List α) (l:List Tok),Good l->l.length<f->Res 0 l (items q f n acc l)
 | 0,_,_,_,_,h=>by omega
 | f+1,n,acc,l,hg,h=>by
  simp only[items];split
  .rename_i hs;exact (Res.pure (sees4 hs hg)).weak
  .exact (sep_res hg).bind0 λ _ l1 _ a1=>(hq l1 a1.good).bind1 (λ x l2 _ a2=>I2 hq f (n+1) _ l2 a2.good (by have:=a1.less;have:=a2.less;omega)) |>.weak
theorem M6{n:Nat}{q:P Ex}(hq:Ok q)(hn:0<n):∀(f c:Nat) (acc:Ex) (l:List Tok),Good l->l.length<f->Res 0 l (chain n q f c acc l)
 | 0,_,_,_,_,h=>by omega
 | f+1,c,acc,[],hg,h=>by exact absurd hg (by simp[Good])
 | f+1,c,acc,t :: r,hg,h=>by
  simp only[chain];split
  .rename_i hl;split
   .exact Res.fail hg (AI rfl)
   .have hk:t.kind≠5:=by
     intro h5;have:levelOf t=(0,0):=by unfold levelOf;rw[if_neg (by omega)]
     rw[this] at hl;simp at hl;omega
    have a3:=hg.tail hk;have a0:Adv 1 (t :: r) r:=⟨a3,AE _ _,by simp⟩;exact (Res.after a0 ((hq r a3).weak.bind0 λ x l1 _ a1=>M6 hq hn f (c+1) _ l1 a1.good (by have:=a1.less;simp at h;omega))).weak
  .exact Res.here hg
theorem level_ok{n:Nat}{q:P Ex}(hq:Ok q)(hn:0<n):Ok (level n q):=λ l hg=>(hq l hg).bind1 λ x l1 _ a1=>M6 hq hn _ _ _ _ a1.good (Nat.lt_succ_self _)
theorem Tg{q:P Ex}(hq:Ok q):Ok (lvl q):=level_ok (level_ok (level_ok (level_ok (level_ok hq (by decide)) (by decide)) (by decide)) (by decide)) (by decide)
theorem Vn{e:P Ex}(he:Ok e):∀(f:Nat) (acc:Ex) (l:List Tok),Good l->l.length<f->Res 0 l (ats e f acc l)
 | 0,_,_,_,h=>by omega
 | f+1,acc,l,hg,h=>by
  simp only[ats];split
  .rename_i hs;have a:=sees4 hs hg;exact (Res.after a ((he _ a.good).weak.bind0 λ x l1 _ a1=>(need_res a1.good).weak.bind0 λ _ l2 _ a2=>Vn he f _ l2 a2.good (by have:=a.less;have:=a1.less;have:=a2.less;omega))).weak
  .exact Res.here hg
theorem Ku{e:P Ex}(he:Ok e):Ok (primary e):=by
 intro l hg
 match l,hg with
 | t :: r,hg=>
  simp only[primary];have a0:t.kind≠5->Adv 1 (t :: r) r:=λ hk=>⟨hg.tail hk,AE _ _,by simp⟩
  split
  .exact Res.pure (a0 (by omega))
  split
  .exact Res.pure (a0 (by omega))
  split
  .rename_i h;exact Res.pure (sees1 h hg)
  split
  .rename_i h;exact Res.pure (sees1 h hg)
  split
  .rename_i h;have a:=sees4 h hg;exact Res.after a ((he _ a.good).weak.bind0 λ x l1 _ a1=>(need_res a1.good).weak.bind0 λ _ l2 _ a2=>Res.here a2.good)
  .refine (name_res hg).bind1 λ t1 l1 _ a1=>?_
   split
   .rename_i h;have a:=sees4 h a1.good;exact (Res.after a ((I2 he _ _ _ _ a.good (by have:=a.less;omega)).bind0 λ xs l2 _ a2=>Res.here a2.good)).weak
   .exact Res.here a1.good
theorem unary_ok:∀k,Ok (unary k)
 | 0,l,hg=>Res.fail hg (AJ rfl)
 | k+1,l,hg=>by
  simp only[unary];split
  .rename_i h;have a:=sees4 h hg;exact Res.after a ((unary_ok k _ a.good).weak.bind0 λ x l1 _ a1=>Res.here a1.good)
  split
  .rename_i h;have a:=sees4 h hg;exact Res.after a ((unary_ok k _ a.good).weak.bind0 λ x l1 _ a1=>Res.here a1.good)
  .exact (Ku (Tg (unary_ok k)) l hg).bind1 λ x l1 _ a1=>Vn (Tg (unary_ok k)) _ _ _ a1.good (Nat.lt_succ_self _)
theorem expr_ok(k:Nat):Ok (Mq k):=Tg (unary_ok k)
theorem Vo{e:P Ex}(he:Ok e){l:List Tok}(hg:Good l):Res 0 l (opt e l):=by
 unfold opt;split
 .rename_i h;have a:=sees4 h hg;exact (Res.after a ((he _ a.good).weak.bind0 λ x l1 _ a1=>(need_res a1.good).weak.bind0 λ _ l2 _ a2=>Res.here a2.good)).weak
 .exact Res.here hg
theorem Xk{b:P (List St)}(hb:Ok b){l:List Tok}(hg:Good l):Res 0 l (other b l):=by
 unfold other;split
 .rename_i h;have a:=sees1 h hg;exact (Res.after a (hb _ a.good).weak).weak
 .exact Res.here hg
theorem Oz{e:P Ex}{b:P (List St)}(he:Ok e)(hb:Ok b):Ok (stmt e b):=by
 intro l hg;unfold stmt;split
 .rename_i h;have a:=sees1 h hg;exact Res.after a ((name_res a.good).weak.bind0 λ t l1 _ a1=>(need_res a1.good).weak.bind0 λ _ l2 _ a2=>(he _ a2.good).weak.bind0 λ x l3 _ a3=>(need_res a3.good).weak.bind0 λ _ l4 _ a4=>Res.here a4.good)
 split
 .rename_i h;have a:=sees1 h hg;exact Res.after a ((name_res a.good).weak.bind0 λ t l1 _ a1=>(Vo he a1.good).bind0 λ xs l2 _ a2=>(need_res a2.good).weak.bind0 λ _ l3 _ a3=>(he _ a3.good).weak.bind0 λ x l4 _ a4=>(need_res a4.good).weak.bind0 λ _ l5 _ a5=>Res.here a5.good)
 split
 .rename_i h;have a:=sees1 h hg;exact Res.after a ((name_res a.good).weak.bind0 λ t l1 _ a1=>(need_res a1.good).weak.bind0 λ _ l2 _ a2=>(he _ a2.good).weak.bind0 λ x l3 _ a3=>(need_res a3.good).weak.bind0 λ _ l4 _ a4=>(need_res a4.good).weak.bind0 λ _ l5 _ a5=>Res.here a5.good)
 split
 .rename_i h;have a:=sees1 h hg;exact Res.after a ((he _ a.good).weak.bind0 λ x l1 _ a1=>(hb _ a1.good).weak.bind0 λ _ l2 _ a2=>(Xk hb a2.good).bind0 λ _ l3 _ a3=>Res.here a3.good)
 split
 .rename_i h;have a:=sees1 h hg;exact Res.after a ((name_res a.good).weak.bind0 λ t l1 _ a1=>(Gq a1.good (by decide)).weak.bind0 λ _ l2 _ a2=>(he _ a2.good).weak.bind0 λ x l3 _ a3=>(hb _ a3.good).weak.bind0 λ _ l4 _ a4=>Res.here a4.good)
 split
 .rename_i h;have a:=sees1 h hg;exact Res.after a ((he _ a.good).weak.bind0 λ x l1 _ a1=>(need_res a1.good).weak.bind0 λ _ l2 _ a2=>Res.here a2.good)
 .exact Res.fail hg (AI rfl)
theorem M7{q:P St}(hq:Ok q):∀(f:Nat) (acc:List St) (l:List Tok),Good l->l.length<f->Res 0 l (stmts q f acc l)
 | 0,_,_,_,h=>by omega
 | f+1,acc,l,hg,h=>by
  simp only[stmts];split
  .rename_i hs;exact (Res.pure (sees4 hs hg)).weak
  .exact ((hq l hg).bind1 λ x l1 _ a1=>M7 hq f _ l1 a1.good (by have:=a1.less;omega)).weak
theorem H7:∀k,Ok (block k)
 | 0,l,hg=>Res.fail hg (AJ rfl)
 | k+1,l,hg=>(need_res hg).bind1 λ _ l1 _ a1=>M7 (Oz (expr_ok k) (H7 k)) _ _ _ a1.good (Nat.lt_succ_self _)
theorem function_ok(on:Bool):Ok (function on):=λ l hg=>(name_res hg).bind1 λ t l1 _ a1=>(need_res a1.good).weak.bind0 λ _ l2 _ a2=>(I2 slot_ok _ _ _ _ a2.good (Nat.lt_succ_self _)).bind0 λ ps l3 _ a3=>(need_res a3.good).weak.bind0 λ _ l4 _ a4=>
 (Oy 4 _ a4.good).weak.bind0 λ y l5 _ a5=>(H7 24 _ a5.good).weak.bind0 λ b l6 _ a6=>Res.here a6.good
theorem Gr:∀(f:Nat) (p:Pr) (l:List Tok),Good l->l.length<f->Res 0 l (parts f p l)
 | 0,_,_,_,h=>by omega
 | f+1,p,[],hg,h=>by exact absurd hg (by simp[Good])
 | f+1,p,t :: r,hg,h=>by
  simp only[parts];split
  .exact Res.here hg
  split
  .rename_i hs;have a:=sees1 hs hg;exact (Res.after a ((slot_ok _ a.good).weak.bind0 λ s l1 _ a1=>(need_res a1.good).weak.bind0 λ _ l2 _ a2=>Gr f _ l2 a2.good (by have:=a.less;have:=a1.less;have:=a2.less;omega))).weak
  split
  .rename_i hs;have a:=sees1 hs hg;exact (Res.after a ((function_ok _ _ a.good).weak.bind0 λ s l1 _ a1=>Gr f _ l1 a1.good (by have:=a.less;have:=a1.less;omega))).weak
  split
  .rename_i hs;have a:=sees1 hs hg;exact (Res.after a ((function_ok _ _ a.good).weak.bind0 λ s l1 _ a1=>Gr f _ l1 a1.good (by have:=a.less;have:=a1.less;omega))).weak
  .exact Res.fail hg (AI rfl)
theorem program_ok:Ok program:=λ l hg=>(Gq hg (by decide)).bind1 λ _ l1 _ a1=>(Tf a1.good).weak.bind0 λ v l2 _ a2=>(need_res a2.good).weak.bind0 λ _ l3 _ a3=>Gr _ _ _ a3.good (Nat.lt_succ_self _)
end Px
end
section
open Go.RowKit
theorem faultOf_any(a er:Nat)(w:World):AA 39 #[.iface 113 (.agg #[iv a,iv er])] w λ e w'=>e=.returned (.tuple #[iv a,iv er])/\Below w w w':=by
 have a0:∀w1:World,(Instr.typeAssert (.iface 113 (.agg #[iv a,iv er])) 20 113 false).run prog w1=.ok (.agg #[iv a,iv er]) w1:=λ _=>by kernel_rfl
 go_enter func39,ntmps39;go_wp2
 go_quiet (fail)
 go_wp2
 go_ret2
 exact⟨rfl,below_drewN ((AF _ _).alloc (AD _) _) _⟩
theorem A5{base:Nat}{e:TypeId}{n:Nat}(h:w.ownsRow base e sz v n xs):∃ao cap,v=.slice ao n cap:=by
 rcases h.2 with⟨hv,h0⟩ | ⟨g,cap,cur,hv,_⟩
 .exact⟨none,0,by rw[hv,h0]⟩
 .exact⟨_,_,hv⟩
theorem Cz{q:Nat}(h:p≠q):(w.setCell p v).cell? q=w.cell? q:=
 World.cell?_setCell_other _ _ _ _ (by intro e;exact h (congrArg Addr.block e))
theorem Tr(p q r:Addr)(w:World) :
  CallsD prog 38 #[.pointer (some p),.pointer (some q),.pointer (some r)] .returning w λ e u' w'=>e=.returned (.tuple #[])/\u'=.returning/\w'=w:=by
 refine callsD_of_wpS func38 rfl λ c₀ cs hu=>?_
 apply wpS_seq;apply wpS_region;simp[wpOpsS,go_sem,recoverD,hu,ntmps38,Exit.thenS];refine wpS_of_wp ?_;go_wp2;cases c₀
 simp_all [bodyPostS,results,results38]
theorem O5(p q r:Nat)(a er:Nat)(older:List PanicEntry)(w:World)(x y z:Value)(hp:w.cell? p=x)(hq:w.cell? q=y)(hr:w.cell? r=z)
  (fp:w.frozen? p=false) (fq:w.frozen? q=false) (fr:w.frozen? r=false) (hpq:p<q) (hqr:q<r) :
  CallsD prog 38 #[pt p 0,pt q 0,pt r 0] (.panicking ({ v:=.iface 113 (.agg #[iv a,iv er]),recovered:=false } :: older)) w λ e u' w'=>
   e=.returned (.tuple #[])/\u'=.panicking ({ v:=.iface 113 (.agg #[iv a,iv er]),recovered:=true } :: older) /\
   w'.cell? p=sZ/\w'.cell? q=iv a/\w'.cell? r=iv er/\Below p w w':=by
 refine callsD_of_wpS func38 rfl λ c₀ cs hu=>?_
 apply wpS_seq;apply wpS_region;simp[wpOpsS,go_sem,recoverD,hu,ntmps38,Exit.thenS];refine wpS_of_wp ?_;have lp:p<w:=Lib.lt_of_cell hp;have lq:q<w:=Lib.lt_of_cell hq;have lr:r<w:=Lib.lt_of_cell hr;have e1:∀w1,Below (w.setCell p sZ).heap.size (w.setCell p sZ) w1 ->
   w1.cell? p=sZ/\w1.cell? q=y/\w1.cell? r=z/\w1.frozen? q=false/\w1.frozen? r=false:=by
  intro w1 hb;have a0:(w.setCell p sZ).heap.size=w.heap.size:=by simp[World.setCell]
  refine⟨?_,?_,?_,?_,?_⟩
  .rw[hb.cell (p:=⟨p,0,none⟩) (by rw[a0];exact lp)];exact World.cell?_setCell_same _ _ _ hp
  .rw[hb.cell (p:=⟨q,0,none⟩) (by rw[a0];exact lq),Cz (by omega)];exact hq
  .rw[hb.cell (p:=⟨r,0,none⟩) (by rw[a0];exact lr),Cz (by omega)];exact hr
  .rw[hb.frozen (p:=⟨q,0,none⟩) (by rw[a0];exact lq),World.frozen?_setCell];exact fq
  .rw[hb.frozen (p:=⟨r,0,none⟩) (by rw[a0];exact lr),World.frozen?_setCell];exact fr
 go_wp2_with (go_at_call 39;refine (faultOf_any a er _).mono ?_;rintro e w1 ⟨rfl,a3⟩;obtain⟨k1,k2,k3,k4,k5⟩:=e1 w1 a3)
 have a4:((w1.setCell q (iv a)).setCell r (iv er)).cell? p=sZ/\((w1.setCell q (iv a)).setCell r (iv er)).cell? q=iv a /\
   ((w1.setCell q (iv a)).setCell r (iv er)).cell? r=iv er/\Below p w ((w1.setCell q (iv a)).setCell r (iv er)):=by
  refine⟨?_,?_,?_,?_⟩
  .rw[Cz (by omega),Cz (by omega)];exact k1
  .rw[Cz (by omega)];exact World.cell?_setCell_same _ _ _ k2
  .refine World.cell?_setCell_same (u:=z) _ _ _ ?_;rw[Cz (by omega)];exact k3
  .have h0:Below p w w1:=((AF p w).setCell (p:=⟨p,0,none⟩) (AD _) sZ).trans (a3.mono (by simp[World.setCell];omega));exact (h0.setCell (p:=⟨q,0,none⟩) (by show p<=q;omega) _).setCell (p:=⟨r,0,none⟩) (by show p<=r;omega) _
 clear e1 a3 k1 k2 k3 k4 k5 hp hq hr fp fq fr;generalize ((w1.setCell q (iv a)).setCell r (iv er))=w2 at *;cases c₀
 simp_all [bodyPostS,results,results38]
def Vu(res:Lx.Out)(w:World)(e:Ending)(w':World):Prop:=
 match res with
 | .inl ts=>(∃v,e=.returned (.tuple #[v,iv 0,iv 0])/\w'.ownsRow w 93 4 v ts.length (Dy ts))/\Below w w w'
 | .inr (a,er)=>e=.returned (.tuple #[sZ,iv a,iv er])/\Below w w w'
abbrev Fh(w:World):World:=((w.alloc (.cells #[sZ] 49)).alloc (.cells #[iv 0] 3)).alloc (.cells #[iv 0] 27)
theorem Hj(w:World):Below w w (Fh w):=(((AF _ _).alloc (AD _) _).alloc (by simp) _).alloc (by simp;omega) _
theorem I3(w:World):(Fh w).heap.size=w.heap.size+3:=by simp
theorem K0(h:Below (Fh w).heap.size (Fh w) w1) :
  w1.cell? w=sZ/\w1.cell? ⟨w.heap.size+1,0,none⟩=iv 0/\w1.cell? ⟨w.heap.size+1+1,0,none⟩=iv 0 /\
  w1.frozen? w=false/\w1.frozen? ⟨w.heap.size+1,0,none⟩=false/\w1.frozen? ⟨w.heap.size+1+1,0,none⟩=false:=by
 have hz:=I3 w;refine⟨?_,?_,?_,?_,?_,?_⟩
 .rw[h.cell (p:=⟨w,0,none⟩) (by rw[hz];show w.heap.size<_;omega)];simp[Fh,go_sem]
 .rw[h.cell (p:=⟨w.heap.size+1,0,none⟩) (by rw[hz];show w.heap.size+1<_;omega)];simp[Fh,go_sem]
 .rw[h.cell (p:=⟨w.heap.size+1+1,0,none⟩) (by rw[hz];show w.heap.size+1+1<_;omega)];simp[Fh,go_sem]
 .rw[h.frozen (p:=⟨w,0,none⟩) (by rw[hz];show w.heap.size<_;omega)];simp[Fh,go_sem]
 .rw[h.frozen (p:=⟨w.heap.size+1,0,none⟩) (by rw[hz];show w.heap.size+1<_;omega)];simp[Fh,go_sem]
 .rw[h.frozen (p:=⟨w.heap.size+1+1,0,none⟩) (by rw[hz];show w.heap.size+1+1<_;omega)];simp[Fh,go_sem]
theorem Zs(s:ByteArray)(w:World)(hs:16384<s.size)(hm:s.size<=maxLen) :
  AA 18 #[.string s] w λ e w'=>e=.returned (.tuple #[sZ,iv 16384,iv 3])/\Below w w w':=by
 unfold maxLen at hm;have hb:∀o1 o2 o3,Below w w (((w.alloc o1).alloc o2).alloc o3):=λ o1 o2 o3=>(((AF _ _).alloc (AD _) _).alloc (by simp) _).alloc (by simp;omega) _
 go_enter_defers func18,ntmps18
 go_wp2;simp[bodyPostD,Leaves,settle,results,results18,go_sem];exact hb _ _ _
theorem Xo(s:ByteArray)(w:World)(a4:Env w)(hs:s.size<=16384)(hq:(34:UInt8) ∉ s.data.toList) :
  AA 18 #[.string s] w λ e w'=>Vu (Lx.lexGo dotC s.data.toList 0 0) w e w':=by
 have a9:∀(fn:Fn) (first cap:Array Value) (w:World),(Instr.makeFunc fn first cap).run prog w=.ok (.func fn first cap) w:=λ _ _ _ _=>rfl
 have a0:=Tq s (Fh w) (a4.below (Hj w) a4.lt) hs hq;generalize Lx.lexGo dotC s.data.toList 0 0=res at a0 ⊢;rcases res with ts | ⟨a,er⟩
 .replace a0:AA 40 #[.string s] (Fh w) λ e w'=>(∃v,e=.returned v/\w'.ownsRow (Fh w).heap.size 93 4 v ts.length (Dy ts))/\Below (Fh w).heap.size (Fh w) w':=a0
  go_enter_defers func18,ntmps18
  go_wp2_with (go_at_call 40;refine a0.mono ?_;rintro e w1 ⟨⟨v,rfl,a3⟩,a5⟩;obtain⟨k0,k1,k2,f0,f1,f2⟩:=K0 a5;obtain⟨ao,cap,hv⟩:=A5 a3;subst hv)
  refine leaves_cons (f:=38) (args:=#[pt w 0,pt (w.heap.size+1) 0,pt (w.heap.size+1+1) 0]) (by simp) (by simp[go_sem]) ?_;refine (Tr _ _ _ _).mono ?_;rintro e u' w'' ⟨rfl,rfl,rfl⟩;have hz:=I3 w;have g0:(((w1.setCell w (.slice ao ts.length cap)).setCell ⟨w.heap.size+1,0,none⟩ (iv 0)).setCell ⟨w.heap.size+1+1,0,none⟩ (iv 0)).cell? w=some (.slice ao ts.length cap):=by
   rw[Cz (by omega),Cz (by omega)];exact World.cell?_setCell_same _ _ _ k0
  have g1:(((w1.setCell w (.slice ao ts.length cap)).setCell ⟨w.heap.size+1,0,none⟩ (iv 0)).setCell ⟨w.heap.size+1+1,0,none⟩ (iv 0)).cell? ⟨w.heap.size+1,0,none⟩=iv 0:=by
   rw[Cz (by omega)];exact World.cell?_setCell_same _ _ _ (by rw[Cz (by omega)];exact k1)
  have g2:(((w1.setCell w (.slice ao ts.length cap)).setCell ⟨w.heap.size+1,0,none⟩ (iv 0)).setCell ⟨w.heap.size+1+1,0,none⟩ (iv 0)).cell? ⟨w.heap.size+1+1,0,none⟩=iv 0:=
   World.cell?_setCell_same _ _ _ (by rw[Cz (by omega),Cz (by omega)];exact k2)
  have a6:Below w w (((w1.setCell w (.slice ao ts.length cap)).setCell ⟨w.heap.size+1,0,none⟩ (iv 0)).setCell ⟨w.heap.size+1+1,0,none⟩ (iv 0)):=
   ((((Hj w).trans (a5.mono (by omega))).setCell (p:=⟨w,0,none⟩) (by show w<=w.heap.size;omega) _).setCell (p:=⟨w.heap.size+1,0,none⟩) (by show w<=w.heap.size+1;omega) _).setCell (p:=⟨w.heap.size+1+1,0,none⟩) (by show w<=w.heap.size+1+1;omega) _
  have a8:=Nd (ownsRow_setCell_below (ownsRow_setCell_below (ownsRow_setCell_below a3 (a:=⟨w,0,none⟩) (by rw[hz];show w.heap.size<_;omega) (.slice ao ts.length cap)) (a:=⟨w.heap.size+1,0,none⟩) (by rw[hz];show w.heap.size+1<_;omega) (iv 0)) (a:=⟨w.heap.size+1+1,0,none⟩) (by rw[hz];show w.heap.size+1+1<_;omega) (iv 0)) (show w.heap.size<=(Fh w).heap.size by omega);generalize (((w1.setCell w (.slice ao ts.length cap)).setCell ⟨w.heap.size+1,0,none⟩ (iv 0)).setCell ⟨w.heap.size+1+1,0,none⟩ (iv 0))=w2 at *;simp[Leaves,settle,results,results18,go_sem,g0,g1,g2];exact⟨⟨_,rfl,a8⟩,a6⟩
 .replace a0:AA 40 #[.string s] (Fh w) λ e w'=>e=.panicked (Dm a er)/\Below (Fh w).heap.size (Fh w) w':=a0
  go_enter_defers func18,ntmps18
  go_wp2_with (go_at_call 40;refine a0.mono ?_;rintro e w1 ⟨rfl,a5⟩;obtain⟨k0,k1,k2,f0,f1,f2⟩:=K0 a5)
  refine leaves_cons (f:=38) (args:=#[pt w 0,pt (w.heap.size+1) 0,pt (w.heap.size+1+1) 0]) (by simp) (by simp[go_sem]) ?_;refine (O5 w (w.heap.size+1) (w.heap.size+1+1) a er [] _ _ _ _ k0 k1 k2 f0 f1 f2 (by omega) (by omega)).mono ?_;rintro e u' w'' ⟨rfl,rfl,g0,g1,g2,a7⟩;have a6:Below w w w'':=((Hj w).trans (a5.mono (by rw[I3];omega))).trans a7;simp[Leaves,settle,results,results18,go_sem,g0,g1,g2];exact⟨rfl,a6⟩
theorem Vw(s:ByteArray)(w:World)(a0:Env w)(hm:s.size<=maxLen)(hq:(34:UInt8) ∉ s.data.toList) :
  AA 18 #[.string s] w λ e w'=>Vu (Lx.lex dotC s.data.toList) w e w':=by
 have hl:s.data.toList.length=s.size:=by simp
 unfold Lx.lex;rw[hl];by_cases hs:16384<s.size
 .rw[if_pos hs];exact Zs s w hs hm
 .rw[if_neg hs];exact Xo s w a0 (by omega) hq
theorem Ts{base:Nat}{e:TypeId}{n:Nat}(h:w.ownsRow base e sz v n xs)(hn:0<n) :
  ∃g cap,v=sL g 0 n cap/\base<=g/\g<w.heap.size/\(∀k u,xs[k]?=some u->w.cell? ⟨g,k,none⟩=some u):=by
 obtain⟨h1,h2⟩:=h;rcases h2 with⟨_,h0⟩ | ⟨g,cap,cur,hv,hg,hh,_,_,_,ht⟩
 .omega
 .refine⟨g,cap,hv,hg,(AB hh).1,λ k u hk=>?_⟩;rw[Lib.cell_of_heap hh];rw[<-ht,List.getElem?_take] at hk;split at hk
  .simpa using hk
  .simp at hk
end
section
namespace Vv
inductive V where
 | mk (k n:Int) (t:AQ) (l:List V)
namespace V
def k:V->Int | .mk k _ _ _=>k
def n:V->Int | .mk _ n _ _=>n
def t:V->List UInt8 | .mk _ _ t _=>t
def l:V->List V | .mk _ _ _ l=>l
def zero:V:=.mk 0 0 [] []
end V
def lx2(c d:Int):Int:=if c=0 then d else c
end Vv
namespace Vv
def betw(s a c:AQ):Option (List UInt8):=if (Lib.hasPrefix s a && Lib.hasSuffix (Lib.trimPrefix s a) c)=true then some (Lib.trimSuffix (Lib.trimPrefix s a) c) else none
theorem pre_iff(s a:AQ):Lib.hasPrefix s a=true↔∃y,s=a ++ y:=by
 rw[Lib.hasPrefix,isPrefixOf_iff_prefix];exact⟨λ⟨y,h⟩=>⟨y,h.symm⟩,λ⟨y,h⟩=>⟨y,h.symm⟩⟩
theorem suf_iff(s a:AQ):Lib.hasSuffix s a=true↔∃y,s=y ++ a:=by
 rw[Lib.hasSuffix,isSuffixOf_iff_suffix];exact⟨λ⟨y,h⟩=>⟨y,h.symm⟩,λ⟨y,h⟩=>⟨y,h.symm⟩⟩
theorem betw_iff(s a c y:AQ):betw s a c=y↔s=a ++ y ++ c:=by
 unfold betw;constructor
 .intro h;split at h
  .rename_i h1;simp only[Bool.and_eq_true] at h1;obtain⟨z,rfl⟩:=(pre_iff s a).1 h1.1;have e:Lib.trimPrefix (a ++ z) a=z:=by simp[Lib.trimPrefix,h1.1]
   rw[e] at h h1;obtain⟨z2,rfl⟩:=(suf_iff z c).1 h1.2;simp[Lib.trimSuffix,h1.2] at h;subst h;simp
  .cases h
 .rintro rfl;have h1:Lib.hasPrefix (a ++ y ++ c) a=true:=(pre_iff _ _).2 ⟨y ++ c,by simp⟩;have e:Lib.trimPrefix (a ++ y ++ c) a=y ++ c:=by rw[Lib.trimPrefix,if_pos h1];simp
  have h2:Lib.hasSuffix (y ++ c) c=true:=(suf_iff _ _).2 ⟨y,rfl⟩;rw[e,h1,h2];simp[Lib.trimSuffix,h2]
def elemT(s:AQ):Option (List UInt8):=
 match betw s [91] [93] with
 | some y=>some y
 | none=>match betw s [123,105,110,116,58] [125] with
  | some y=>some y
  | none=>betw s [123,116,101,120,116,58] [125]
theorem betw_none(s a c:AQ)(h:∀y,s≠a ++ y ++ c):betw s a c=none:=by
 rcases hb:betw s a c with _ | y
 .rfl
 .exact absurd ((betw_iff s a c y).1 hb) (h y)
inductive Ty where
 | int | bool | text
 | list (t:Ty)
 | map (k:Bool) (t:Ty)
 deriving DecidableEq
def keyT(k:Bool):List UInt8:=if k then [105,110,116] else [116,101,120,116]
def tyT:Ty->List UInt8
 | .int=>[105,110,116]
 | .bool=>[98,111,111,108]
 | .text=>[116,101,120,116]
 | .list t=>[91] ++ tyT t ++ [93]
 | .map k t=>[123] ++ keyT k ++ [58] ++ tyT t ++ [125]
def Ty.dp:Ty->Nat
 | .int=>1 | .bool=>1 | .text=>1
 | .list t=>t.dp+1
 | .map _ t=>t.dp+1
def G6:Nat->List UInt8->Option Ty
 | 0,_=>none
 | f+1,s=>if s=[105,110,116] then some .int else if s=[98,111,111,108] then some .bool else if s=[116,101,120,116] then some .text else
  match betw s [91] [93] with
  | some y=>(G6 f y).map .list
  | none=>match betw s [123,105,110,116,58] [125] with
   | some y=>(G6 f y).map (.map true)
   | none=>match betw s [123,116,101,120,116,58] [125] with
    | some y=>(G6 f y).map (.map false)
    | none=>none
def Sb(s:AQ):Option Ty:=G6 4 s
def tyF:Nat->List UInt8->Bool
 | 0,_=>false
 | f+1,s=>if s=[105,110,116]\/s=[98,111,111,108]\/s=[116,101,120,116] then true else match elemT s with
  | some y=>tyF f y
  | none=>false
theorem Pz:∀(f:Nat) (s:AQ),tyF f s=(G6 f s).isSome
 | 0,s=>rfl
 | f+1,s=>by
  rw[tyF,G6];by_cases h1:s=[105,110,116]
  .rw[if_pos (Or.inl h1),if_pos h1];rfl
  by_cases h2:s=[98,111,111,108]
  .rw[if_pos (Or.inr (Or.inl h2)),if_neg h1,if_pos h2];rfl
  by_cases h3:s=[116,101,120,116]
  .rw[if_pos (Or.inr (Or.inr h3)),if_neg h1,if_neg h2,if_pos h3];rfl
  rw[if_neg (by rintro (h | h | h) <;> contradiction),if_neg h1,if_neg h2,if_neg h3];unfold elemT;rcases betw s [91] [93] with _ | y
  .rcases betw s [123,105,110,116,58] [125] with _ | y
   .rcases betw s [123,116,101,120,116,58] [125] with _ | y
    .rfl
    .simp[Pz f y]
   .simp[Pz f y]
  .simp[Pz f y]
def gType(s:AQ):Bool:=(Sb s).isSome
theorem gType_tyF(s:AQ):gType s=tyF 4 s:=(Pz 4 s).symm
theorem Ki:∀(f:Nat) (s:AQ) (T:Ty),G6 f s=T->tyT T=s/\T.dp<=f
 | 0,s,T,h=>by simp[G6] at h
 | f+1,s,T,h=>by
  rw[G6] at h;by_cases h1:s=[105,110,116]
  .rw[if_pos h1] at h;cases h;subst h1;exact⟨rfl,by simp[Ty.dp]⟩
  rw[if_neg h1] at h;by_cases h2:s=[98,111,111,108]
  .rw[if_pos h2] at h;cases h;subst h2;exact⟨rfl,by simp[Ty.dp]⟩
  rw[if_neg h2] at h;by_cases h3:s=[116,101,120,116]
  .rw[if_pos h3] at h;cases h;subst h3;exact⟨rfl,by simp[Ty.dp]⟩
  rw[if_neg h3] at h;rcases e1:betw s [91] [93] with _ | y
  .rw[e1] at h;rcases e2:betw s [123,105,110,116,58] [125] with _ | y
   .rw[e2] at h;rcases e3:betw s [123,116,101,120,116,58] [125] with _ | y
    .rw[e3] at h;simp at h
    .rw[e3] at h;simp only[Option.map_eq_some_iff] at h;obtain⟨T',h,rfl⟩:=h;obtain⟨g1,g2⟩:=Ki f y T' h;have:=(betw_iff _ _ _ _).1 e3;exact⟨by rw[this];simp[tyT,keyT,g1],by simp[Ty.dp];omega⟩
   .rw[e2] at h;simp only[Option.map_eq_some_iff] at h;obtain⟨T',h,rfl⟩:=h;obtain⟨g1,g2⟩:=Ki f y T' h;have:=(betw_iff _ _ _ _).1 e2;exact⟨by rw[this];simp[tyT,keyT,g1],by simp[Ty.dp];omega⟩
  .rw[e1] at h;simp only[Option.map_eq_some_iff] at h;obtain⟨T',h,rfl⟩:=h;obtain⟨g1,g2⟩:=Ki f y T' h;have:=(betw_iff _ _ _ _).1 e1;exact⟨by rw[this];simp[tyT,g1],by simp[Ty.dp];omega⟩
theorem Kj:∀(T:Ty) (f:Nat),T.dp<=f->G6 f (tyT T)=T
 | .int,f+1,h=>by simp[G6,tyT]
 | .bool,f+1,h=>by simp[G6,tyT]
 | .text,f+1,h=>by simp[G6,tyT]
 | .list t,f+1,h=>by
  have ih:=Kj t f (by simp[Ty.dp] at h;omega);rw[G6,tyT,if_neg (by simp),if_neg (by simp),if_neg (by simp),(betw_iff _ _ _ (tyT t)).2 rfl];simp[ih]
 | .map true t,f+1,h=>by
  have ih:=Kj t f (by simp[Ty.dp] at h;omega);rw[G6,tyT,if_neg (by simp),if_neg (by simp),if_neg (by simp),betw_none _ _ _ (λ z=>by simp),(betw_iff _ _ _ (tyT t)).2 (by simp[keyT])];simp[ih]
 | .map false t,f+1,h=>by
  have ih:=Kj t f (by simp[Ty.dp] at h;omega);rw[G6,tyT,if_neg (by simp),if_neg (by simp),if_neg (by simp),betw_none _ _ _ (λ z=>by simp),betw_none _ _ _ (λ z=>by simp[keyT]),(betw_iff _ _ _ (tyT t)).2 (by simp[keyT])];simp[ih]
theorem tyOf_iff(s:AQ)(T:Ty):Sb s=T↔tyT T=s/\T.dp<=4:=
 ⟨Ki 4 s T,λ⟨h1,h2⟩=>by rw[<-h1];exact Kj T 4 h2⟩
theorem tyT_len:∀T:Ty,3<=(tyT T).length/\(tyT T).length<=7*T.dp
 | .int=>by simp[tyT,Ty.dp] | .bool=>by simp[tyT,Ty.dp] | .text=>by simp[tyT,Ty.dp]
 | .list t=>by have:=tyT_len t;simp[tyT,Ty.dp];omega
 | .map k t=>by have:=tyT_len t;cases k <;> (simp[tyT,Ty.dp,keyT];omega)
def Bc6(s:AQ):Option (List UInt8):=
 if 2<s.length/\s[0]?=some 91/\s[s.length - 1]?=some 93 then some ((s.take (s.length - 1)).drop 1)
 else if 6<s.length/\s.take 5=[123,105,110,116,58]/\s[s.length - 1]?=some 125 then some ((s.take (s.length - 1)).drop 5)
 else if 7<s.length/\s.take 6=[123,116,101,120,116,58]/\s[s.length - 1]?=some 125 then some ((s.take (s.length - 1)).drop 6)
 else none
def Aw1:Nat->List UInt8->Nat
 | 0,_=>0
 | f+1,s=>
  if s=[105,110,116]\/s=[98,111,111,108]\/s=[116,101,120,116] then 1
  else match Bc6 s with
   | none=>0
   | some y=>if 200<s.length then 0 else if Aw1 f y=0 then 0 else Aw1 f y+1
def dep(s:AQ):Nat:=Aw1 (s.length+1) s
end Vv
end
section
open Go.RowKit
def plainB(l:AQ):Bool:=decide (l.length<=256) && l.all Lx.isPlain
def wordB(l:AQ):Bool:=match l with
 | []=>false
 | c :: r=>decide ((c :: r).length<=16) && (Lx.isLetter c && (c :: r).all Lx.isPart)
theorem F3(s:ByteArray):s.data.toList.length=s.size:=by simp
theorem Zt(p:UInt8->Bool)(l:AQ):decide ((l.takeWhile p).length=l.length)=l.all p:=by
 rw[Bool.eq_iff_iff];simp only[decide_eq_true_eq];exact Lx.tw_all
theorem Xp(s:ByteArray)(w:World)(hs:s.size<=maxLen):AA 210 #[.string s] w λ e w'=>e=.returned (.bool (plainB s.data.toList))/\w'=w:=by
 have hc:=count_any s 134 Lx.isPlain w hs As6 As8;have hl:=F3 s;have a0:=Lx.tw_le (p:=Lx.isPlain) s.data.toList;have ha:=Zt Lx.isPlain s.data.toList;unfold plainB;rw[hl,<-ha,hl];clear ha;generalize (s.data.toList.takeWhile Lx.isPlain).length=k at *;unfold maxLen at hs;by_cases h:s.size<=256
 .go_enter func210,ntmps210;go_wp2_with (go_at_call 129;refine hc.mono ?_;rintro e w' ⟨rfl,rfl⟩);go_ret;exact⟨ret_bool (by rw[Bool.eq_iff_iff];simp;omega),rfl⟩
 .go_enter func210,ntmps210;go_wp2;go_ret;exact⟨ret_bool (by simp[h]),rfl⟩
theorem I4(s:ByteArray)(h:0<s.size):s.data.toList=s[0] :: s.data.toList.tail:=by
 have e:=D7 s 0 h;simpa using e
theorem Zu(h:s.size=0):s=⟨#[]⟩:=Fg (by
 have:=F3 s;rw[h] at this;rw[eq_nil_of_length_eq_zero this])
theorem At1(h:0<s.size):(s.toList == [])=false:=by
 rw[ByteArray.toList_eq,I4 s h];rfl
theorem Zv(s:ByteArray)(w:World)(hs:s.size<=maxLen):AA 125 #[.string s] w λ e w'=>e=.returned (.bool (wordB s.data.toList))/\w'=w:=by
 have hc:=count_any s 130 Lx.isPart w hs Zf Zg;have hl:=F3 s;have a3:=Lx.tw_le (p:=Lx.isPart) s.data.toList;have ha:=Zt Lx.isPart s.data.toList;unfold maxLen at hs;by_cases h0:0<s.size
 .have a0:=At1 h0;have hw:Aside (wordB s.data.toList=(decide (s.size<=16) && (Lx.isLetter s[0] && decide ((s.data.toList.takeWhile Lx.isPart).length=s.size)))):=by
   show _=_;rw[<-hl,ha]
   conv=>lhs;rw[I4 s h0]
   conv=>rhs;rw[I4 s h0]
   rfl
  clear ha;generalize (s.data.toList.takeWhile Lx.isPart).length=k at *;by_cases h:s.size<=16
  .rcases hlt:Lx.isLetter s[0] with _ | _
   .go_enter func125,ntmps125;go_wp2_with (first
     |(go_at_call 100;refine (isLetter_any _ _).mono ?_;rw[hlt];rintro e w' ⟨rfl,rfl⟩)
     |(go_at_call 129;refine hc.mono ?_;rintro e w' ⟨rfl,rfl⟩))
    go_ret;exact⟨ret_bool (by rw[hw.out,hlt];simp),rfl⟩
   .go_enter func125,ntmps125;go_wp2_with (first
     |(go_at_call 100;refine (isLetter_any _ _).mono ?_;rw[hlt];rintro e w' ⟨rfl,rfl⟩)
     |(go_at_call 129;refine hc.mono ?_;rintro e w' ⟨rfl,rfl⟩))
    go_ret;exact⟨ret_bool (by rw[hw.out,hlt,Bool.eq_iff_iff];simp;omega),rfl⟩
  .go_enter func125,ntmps125;go_wp2;go_ret;exact⟨ret_bool (by rw[hw.out];simp[h]),rfl⟩
 .have e:=Zu (s:=s) (by omega);subst e;go_enter func125,ntmps125;go_wp2;go_ret;exact⟨rfl,rfl⟩
def Cv(l:AQ):List UInt8:=l.flatMap λ c=>if Lx.isEsc c then [92,c] else [c]
def Fi(l:AQ):List UInt8:=34 :: Cv l ++ [34]
theorem Nf(l:AQ)(c:UInt8):Cv (l ++ [c])=Cv l ++ if Lx.isEsc c then [92,c] else [c]:=by simp[Cv]
theorem K1:∀l:AQ,(Cv l).length<=2*l.length
 | []=>by simp[Cv]
 | c :: r=>by
  have h:=K1 r;have e:Cv (c :: r)=(if Lx.isEsc c then [92,c] else [c]) ++ Cv r:=by simp[Cv]
  rw[e];split <;> simp <;> omega
theorem Xq(s:ByteArray)(k:Nat)(h:k<s.size):s.data.toList.take (k+1)=s.data.toList.take k ++ [s[k]]:=by
 rw[take_succ_eq_append_getElem (by simpa using h)];rfl
theorem Hl(l:AQ)(c:UInt8):Lib.byteCells (l ++ [c])=Lib.byteCells l ++ [.int .u8 c.toNat]:=by simp[Lib.byteCells]
theorem Gu(B b:Nat)(l:AQ)(c:UInt8)(w:World)(h:IsB B b (Lib.byteCells l) w)(hl:l.length+1<=140737488355328)(hB:B<=b) :
  AA 132 #[pt b 0,.int .u8 c.toNat] w λ e w'=>e=.returned .nilIface/\(IsB B b (Lib.byteCells (l ++ [c])) w'/\Below B w w'):=by
 rw[Hl];exact Mo B b (Lib.byteCells l) c.toNat w h (by simp[Lib.byteCells];omega) (by have:=h.lt;omega)
theorem Vx(B b:Nat)(l:AQ)(w:World)(h:IsB B b (Lib.byteCells l) w)(hl:l.length+1<=140737488355328)(hB:B<=b) :
  AA 132 #[pt b 0,.int .u8 34] w λ e w'=>e=.returned .nilIface/\(IsB B b (Lib.byteCells (l ++ [34])) w'/\Below B w w'):=Gu B b l 34 w h hl hB
theorem Al5(B b:Nat)(l:AQ)(w:World)(h:IsB B b (Lib.byteCells l) w)(hl:l.length+1<=140737488355328)(hB:B<=b) :
  AA 132 #[pt b 0,.int .u8 92] w λ e w'=>e=.returned .nilIface/\(IsB B b (Lib.byteCells (l ++ [92])) w'/\Below B w w'):=Gu B b l 92 w h hl hB
theorem Xr(s:ByteArray)(w:World)(hs:s.size<=1099511627776):AA 211 #[.string s] w λ e w'=>e=.returned (.string ⟨(Fi s.data.toList).toArray⟩)/\Below w w w':=by
 have hl:=F3 s;have aa:Below w w (w.alloc (.cells #[.pointer none,sZ] 82)):=(AF _ _).alloc (AD _) _;have ad:IsB w w (Lib.byteCells []) (w.alloc (.cells #[.pointer none,sZ] 82)):=Mp (AD _) (by show (w.heap.push _)[w.heap.size]?=_;rw[Array.getElem?_push,if_pos rfl]);go_enter func211,ntmps211;go_wp2_with (go_at_call 132;refine (Vx w w [] _ ad (by simp) (AD _)).mono ?_;rintro e w1 ⟨rfl,a9,ab⟩)
 go_loopg [8] s.size (λ g i wr=>∃k:Nat,k<=s.size/\g=s.size - k/\i=iv k/\IsB w w (Lib.byteCells (34 :: Cv (s.data.toList.take k))) wr/\Below w w wr)
 case atStart=>exact⟨0,AO _,rfl,rfl,a9,aa.trans ab⟩
 case round=>
  obtain⟨k,hk,rfl,rfl,hi,hb⟩:=hrel;clear ad a9 aa ab;have a6:=K1 (s.data.toList.take k);have ae:(s.data.toList.take k).length<=k:=length_take_le _ _;by_cases hlt:k<s.size
  .have a5:=Xq s k hlt;rcases hp:Lx.isEsc s[k] with _ | _
   .have a7:Aside (34 :: Cv (s.data.toList.take (k+1))=(34 :: Cv (s.data.toList.take k)) ++ [s[k]]):=by
     show _=_;rw[a5,Nf,hp];rfl
    have hw:=Gu w w _ s[k] wr hi (by simp;omega) (AD _);clear a5;go_wp2_with (first
     |(go_at_call 159;refine (needs_any _ _).mono ?_;rw[hp];rintro e w' ⟨rfl,rfl⟩)
     |(go_at_call 132;refine hw.mono ?_;rintro e w2 ⟨rfl,a3,a4⟩))
    go_roundg (s.size - (k+1))
    case measure=>omega
    case rel=>exact⟨k+1,by omega,rfl,by go_num,by rw[a7.out];exact a3,hb.trans a4⟩
   .have a7:Aside (34 :: Cv (s.data.toList.take (k+1))=((34 :: Cv (s.data.toList.take k)) ++ [92]) ++ [s[k]]):=by
     show _=_;rw[a5,Nf,hp];simp
    have ah:=Al5 w w _ wr hi (by simp;omega) (AD _);have af:∀w2,IsB w w (Lib.byteCells ((34 :: Cv (s.data.toList.take k)) ++ [92])) w2->_:=λ w2 h2=>Gu w w _ s[k] w2 h2 (by simp;omega) (AD _)
    clear a5;go_wp2_with fail;refine (needs_any _ _).mono ?_;rw[hp];rintro e w' ⟨rfl,rfl⟩;go_wp2_with fail;refine ah.mono ?_;rintro e w2 ⟨rfl,a3,a4⟩;go_wp2_with fail;refine (af w2 a3).mono ?_;rintro e w3 ⟨rfl,ai,a8⟩;go_wp2_with fail;go_roundg (s.size - (k+1))
    case measure=>omega
    case rel=>exact⟨k+1,by omega,rfl,by go_num,by rw[a7.out];exact ai,(hb.trans a4).trans a8⟩
  .have a0:s.data.toList.take k=s.data.toList:=take_of_length_le (by omega);rw[a0] at hi a6;have hw:=Vx w w _ wr hi (by simp;omega) (AD _);clear a0 ae hl;go_wp2_with fail;refine hw.mono ?_;rintro e w2 ⟨rfl,a3,a4⟩;have ag:=Te w w _ w2 a3 (by have:=a3.lt;omega);go_wp2_with fail;refine ag.mono ?_;rintro e w3 ⟨rfl,a8⟩;go_wp2;go_ret;exact⟨rfl,(hb.trans a4).trans a8⟩
end
end Go.Proofs.YtpckmjfabiallaaGreatDoor
