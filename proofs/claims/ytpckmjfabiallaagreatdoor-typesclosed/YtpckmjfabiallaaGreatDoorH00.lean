/- Texts of ours, joined. -/
import Derived.Test.YtpckmjfabiallaaGreatDoorShelf
import Derived.WalkSpells
import Derived.WalkLawsBesides
import Derived.BigQuiet
import Derived.Deep.LoopGhost
set_option linter.unusedVariables false
set_option linter.unusedSimpArgs false
set_option maxRecDepth 100000
set_option maxHeartbeats 16000000
namespace Go.Proofs.YtpckmjfabiallaaGreatDoor
variable{b i j m p:Nat}{s:ByteArray}{v:Value}{w w' w1 w2:World}
open List
open Tryz
section
abbrev AQ:Type:=List UInt8
abbrev AR:Type:=List Value
abbrev AS:=Nat->Prop
abbrev iv(n:Int):Value:=.int .i64 n
abbrev bz(l:AQ):Value:=.string ⟨l.toArray⟩
abbrev pt(b o:Nat):Value:=.pointer (some ⟨b,o,none⟩)
abbrev sL(b o n c:Nat):Value:=.slice (some ⟨b,o,none⟩) n c
abbrev sZ:Value:=.slice none 0 0
theorem aP:(∀(a:Act) (d:Tmp) (v:Value),a.put (some d) v={ a with tmps:=a.tmps.setIfInBounds d v })/\(∀(a:Act) (v:Value),a.put none v=a)/\(∀(l:AR) (i:Nat) (a:Value),l.toArray.setIfInBounds i a=(l.set i a).toArray)/\(∀(x:Value) (l:AR) (a:Value),(x :: l).set 0 a=a :: l)/\(∀(x:Value) (l:AR) (n:Nat) (a:Value),(x :: l).set (n+1) a=x :: l.set n a)/\(∀(l:List Bool) (i:Nat) (a:Bool),l.toArray.setIfInBounds i a=(l.set i a).toArray)/\(∀(x:Bool) (l:List Bool) (a:Bool),(x :: l).set 0 a=a :: l)/\(∀(x:Bool) (l:List Bool) (n:Nat) (a:Bool),(x :: l).set (n+1) a=x :: l.set n a):=
 ⟨λ _ _ _=>rfl,λ _ _=>rfl,λ _ _ _=>setIfInBounds_toArray ..,λ _ _ _=>set_cons_zero ..,λ _ _ _ _=>set_cons_succ ..,λ _ _ _=>setIfInBounds_toArray ..,λ _ _ _=>set_cons_zero ..,λ _ _ _ _=>set_cons_succ ..⟩
abbrev sE:Value:=.string ⟨#[]⟩
abbrev AA:=Calls prog
abbrev AB{α}{a:Array α}{i:Nat}{b:α}:=(@Array.getElem?_eq_some_iff α i b a).1
abbrev AC:=@List.mem_cons_self
abbrev AD:=@Nat.le_refl
abbrev AE:=@List.suffix_cons
abbrev AF:=@Go.RowKit.Below.refl
abbrev AG:=@Go.RowKit.Below.heap_setCell
abbrev AH:=@List.mem_cons_of_mem
abbrev AI:=@Or.inl
abbrev AJ:=@Or.inr
abbrev AK{α}{a:List α}{i:Nat}{b:α}:=(@List.getElem?_eq_some_iff α i b a).1
abbrev AL:=@Nat.lt_of_lt_of_le
abbrev AM:=@Array.getElem?_modify
abbrev AN:=@List.getElem?_eq_getElem
abbrev AO:=@Nat.zero_le
abbrev AP:=@Nat.le_trans
namespace Lx
abbrev B:=List UInt8
def isLetter(c:UInt8):Bool:=(97<=c && c<=122) || c == 95
def isDigit(c:UInt8):Bool:=48<=c && c<=57
def isPart(c:UInt8):Bool:=isLetter c || isDigit c
def isBlank(c:UInt8):Bool:=c == 32 || c == 10 || c == 9
def isInNote(c:UInt8):Bool:=c != 10
def isPlain(c:UInt8):Bool:=32<=c && c<=126
def isEsc(c:UInt8):Bool:=c == 34 || c == 92
abbrev R:=(Nat × B × Nat × Nat) ⊕ (Nat × Nat)
@[reducible] def R.ok (k:Nat) (t:B) (num:Nat) (n:Nat):R:=.inl (k,t,num,n)
@[reducible] def R.bad (off:Nat) (e:Nat):R:=.inr (off,e)
def value(t:B):Nat:=t.foldl (λ n c=>n*10+(c.toNat - 48)) 0
def nameR(l:B):R:=if (l.takeWhile isPart).length<=16 then R.ok 1 (l.takeWhile isPart) 0 (l.takeWhile isPart).length else R.bad 0 3
def numberR(l:B):R:=
 if (l.takeWhile isDigit).head?=some 48/\1<(l.takeWhile isDigit).length then R.bad 0 30
 else if value (l.takeWhile isDigit)<=9223372036854775807 then R.ok 2 (l.takeWhile isDigit) (value (l.takeWhile isDigit)) (l.takeWhile isDigit).length
 else R.bad 0 3
def quoteR:B->Nat->B->R
 | [],_,_=>R.bad 0 30
 | [c],o,acc=>if c=34 then (if acc.length<=256 then R.ok 3 acc 0 (o+1) else R.bad 0 3) else if c=92 then R.bad o 30 else if isPlain c then R.bad 0 30 else R.bad o 30
 | c :: d :: r,o,acc=>
  if c=34 then (if acc.length<=256 then R.ok 3 acc 0 (o+1) else R.bad 0 3)
  else if c=92 then (if isEsc d then quoteR r (o+2) (acc ++ [d]) else R.bad o 30)
  else if isPlain c then quoteR (d :: r) (o+1) (acc ++ [c]) else R.bad o 30
def two(l:B):Bool:=
 match l with
 | a :: b :: _=>(b == 61 && (a == 61 || a == 33 || a == 60 || a == 62)) || (a == 38 && b == 38) || (a == 124 && b == 124)
 | _=>false
def ones(dot:Bool):B:=[40,41,123,125,91,93,58,59,44,61,60,62,43,45,42,47,37,33] ++ if dot then [46] else []
def one(dot:Bool)(c:UInt8):Bool:=(ones dot).contains c
def markN(dot:Bool)(l:B):Nat:=
 if two l then 2 else match l with
 | c :: _=>if one dot c then 1 else 0
 | []=>0
def markR(dot:Bool)(l:B):R:=if markN dot l=0 then R.bad 0 30 else R.ok 4 (l.take (markN dot l)) 0 (markN dot l)
def tokR(dot:Bool)(l:B):R:=
 match l with
 | []=>R.ok 5 [] 0 0
 | c :: r=>if isLetter c then nameR (c :: r) else if isDigit c then numberR (c :: r) else if c=34 then quoteR r 1 [] else markR dot (c :: r)
def skipF:Bool->B->Nat
 | _,[]=>0
 | true,c :: r=>if c=10 then 1+skipF false r else 1+skipF true r
 | false,c :: r=>if isBlank c then 1+skipF false r else if c=35 then 1+skipF true r else 0
structure Tok where
 kind:Nat
 text:B
 num:Nat
 place:Nat
abbrev Out:=List Tok ⊕ (Nat × Nat)
def Out.pre(p:List Tok):Out->Out
 | .inl ts=>.inl (p ++ ts)
 | .inr x=>.inr x
def lexF(dot:Bool):Nat->B->Nat->Nat->Out
 | 0,_,_,_=>.inr (0,0)
 | f+1,l,i,c=>
  match l.drop (skipF false l) with
  | []=>if c<4096 then .inl [⟨5,[],0,i+skipF false l⟩] else .inr (i+skipF false l,36)
  | x :: r=>
   match tokR dot (x :: r) with
   | .inr (o,e)=>.inr (i+skipF false l+o,e)
   | .inl (k,t,m,n)=>if c<4096 then Out.pre [⟨k,t,m,i+skipF false l⟩] (lexF dot f (r.drop (n - 1)) (i+skipF false l+n) (c+1)) else .inr (i+skipF false l,36)
def lexGo(dot:Bool)(l:B)(i c:Nat):Out:=lexF dot (l.length+1) l i c
def lex(dot:Bool)(l:B):Out:=if 16384<l.length then .inr (16384,3) else lexGo dot l 0 0
theorem Pn(dot:Bool):∀(f g:Nat) (l:B) (i c:Nat),l.length<f->l.length<g->lexF dot f l i c=lexF dot g l i c
 | 0,_,_,_,_,h,_=>by omega
 | _,0,_,_,_,_,h=>by omega
 | f+1,g+1,l,i,c,hf,hg=>by
  simp only[lexF];rcases hd:l.drop (skipF false l) with _ | ⟨x,r⟩
  .rfl
  .have hl:=congrArg List.length hd;simp at hl;rcases ht:tokR dot (x :: r) with⟨k,t,m,n⟩ | ⟨o,e⟩
   .simp only[ht];rw[Pn dot f g (r.drop (n - 1)) _ _ (by simp;omega) (by simp;omega)]
   .simp only[ht]
theorem lexGo_end{dot:Bool}{l:B}{c:Nat}(h:l.drop (skipF false l)=[]):lexGo dot l i c=if c<4096 then .inl [⟨5,[],0,i+skipF false l⟩] else .inr (i+skipF false l,36):=by
 simp only[lexGo,lexF,h]
theorem lexGo_bad{dot:Bool}{l:B}{c:Nat}{x:UInt8}{r:B}{o e:Nat}(h:l.drop (skipF false l)=x :: r)(ht:tokR dot (x :: r)=R.bad o e):lexGo dot l i c=.inr (i+skipF false l+o,e):=by
 simp only[lexGo,lexF,h,ht]
theorem lexGo_ok{dot:Bool}{l:B}{c:Nat}{x:UInt8}{r:B}{k:Nat}{t:B}{n:Nat}(h:l.drop (skipF false l)=x :: r)(ht:tokR dot (x :: r)=R.ok k t m n)(hn:1<=n) :
  lexGo dot l i c=if c<4096 then Out.pre [⟨k,t,m,i+skipF false l⟩] (lexGo dot (l.drop (skipF false l+n)) (i+skipF false l+n) (c+1)) else .inr (i+skipF false l,36):=by
 have hl:=congrArg List.length h;simp at hl;have e:r.drop (n - 1)=l.drop (skipF false l+n):=by
  rw[<-drop_drop,h];obtain⟨n',rfl⟩:∃n',n=n'+1:=⟨n - 1,by omega⟩;rfl
 have a0:=congrArg List.length e;simp at a0;simp only[lexGo]
 conv=>lhs;simp only[lexF,h,ht]
 rw[e,Pn dot l.length ((l.drop (skipF false l+n)).length+1) _ _ _ (by simp;omega) (by simp)]
theorem pre_pre(p q:List Tok)(o:Out):Out.pre p (Out.pre q o)=Out.pre (p ++ q) o:=by rcases o with o | o <;> simp[Out.pre]
theorem pre_nil(o:Out):Out.pre [] o=o:=by rcases o with o | o <;> rfl
/- How far a loop has come over the bytes of a kind. -/
theorem tw_step{p:UInt8->Bool}:∀{l:B} {k:Nat} (_:k<=(l.takeWhile p).length) (hk:k<l.length),p l[k]=true->k+1<=(l.takeWhile p).length
 | [],k,_,hk,_=>by simp at hk
 | c :: r,0,_,_,hp=>by simp at hp;simp[hp]
 | c :: r,k+1,h,hk,hp=>by
  by_cases hc:p c
  .simp[hc] at h ⊢;exact tw_step (l:=r) h (by simpa using hk) (by simpa using hp)
  .simp[hc] at h
theorem tw_stop{p:UInt8->Bool}:∀{l:B} {k:Nat} (_:k<=(l.takeWhile p).length) (hk:k<l.length),p l[k]=false->(l.takeWhile p).length=k
 | [],k,_,hk,_=>by simp at hk
 | c :: r,0,_,_,hp=>by simp at hp;simp[hp]
 | c :: r,k+1,h,hk,hp=>by
  by_cases hc:p c
  .simp[hc] at h ⊢;exact tw_stop (l:=r) h (by simpa using hk) (by simpa using hp)
  .simp[hc] at h
theorem tw_end{p:UInt8->Bool}{l:B}{k:Nat}(h:k<=(l.takeWhile p).length)(hk:¬k<l.length):(l.takeWhile p).length=k:=by
 have:(l.takeWhile p).length<=l.length:=(takeWhile_prefix p).length_le;omega
theorem tw_le{p:UInt8->Bool}(l:B):(l.takeWhile p).length<=l.length:=(takeWhile_prefix p).length_le
theorem tw_take{p:UInt8->Bool}(l:B):l.take (l.takeWhile p).length=l.takeWhile p:=(prefix_iff_eq_take.1 (takeWhile_prefix p)).symm
theorem tw_mem{p:UInt8->Bool}:∀{l:B},∀c∈l.takeWhile p,p c=true
 | [],c,h=>by simp at h
 | a :: r,c,h=>by
  by_cases ha:p a
  .simp only[takeWhile_cons,ha,if_true,mem_cons] at h;rcases h with rfl | h
   .exact ha
   .exact tw_mem c h
  .simp[ha] at h
theorem tw_len{p:UInt8->Bool}:∀{l:B},(∀c∈l,p c=true)->(l.takeWhile p).length=l.length
 | [],_=>rfl
 | a :: r,h=>by
  simp[h a (by simp)];exact tw_len λ c hc=>h c (by simp[hc])
theorem tw_all{p:UInt8->Bool}{l:B}:(l.takeWhile p).length=l.length↔l.all p=true:=by
 constructor
 .intro h;have e:l.takeWhile p=l:=by rw[<-tw_take l,h,take_length]
  rw[all_eq_true];intro c hc;exact tw_mem c (by rw[e];exact hc)
 .intro h;rw[all_eq_true] at h;exact tw_len h
/- Blanks and notes. -/
theorem skip_blanks:∀l:B,skipF false l=(l.takeWhile isBlank).length+skipF false (l.drop (l.takeWhile isBlank).length)
 | []=>by simp[skipF]
 | c :: r=>by
  by_cases h:isBlank c
  .simp[h];rw[skipF,if_pos h,skip_blanks r];omega
  .simp[h]
theorem Ma:∀r:B,skipF true r=(r.takeWhile isInNote).length+skipF false (r.drop (r.takeWhile isInNote).length)
 | []=>by simp[skipF]
 | c :: r=>by
  by_cases h:c=10
  .subst h;simp[isInNote,skipF,isBlank]
  .have e:isInNote c=true:=by simp[isInNote,h]
   simp[e];rw[skipF,if_neg h,Ma r];omega
theorem skip_hash(r:B):skipF false (35 :: r)=((35 :: r).takeWhile isInNote).length+skipF false ((35 :: r).drop ((35 :: r).takeWhile isInNote).length):=by
 have e:isInNote 35=true:=rfl;simp[e];rw[skipF,if_neg (by decide),if_pos rfl,Ma r];omega
theorem skip_none:∀{l:B},(∀c,l.head?=some c->isBlank c=false/\c≠35)->skipF false l=0
 | [],_=>rfl
 | c :: r,h=>by
  obtain⟨h1,h2⟩:=h c rfl;simp[skipF,h1,h2]
theorem skip_le:∀(b:Bool) (l:B),skipF b l<=l.length
 | true,[]=>by simp[skipF]
 | false,[]=>by simp[skipF]
 | true,c :: r=>by
  have h1:=skip_le true r;have h2:=skip_le false r;simp only[skipF,length_cons];split <;> omega
 | false,c :: r=>by
  have h1:=skip_le true r;have h2:=skip_le false r;simp only[skipF,length_cons];split
  .omega
  .split <;> omega
theorem skip_head:∀(b:Bool) (l:B),∀c,(l.drop (skipF b l)).head?=some c->isBlank c=false/\c≠35
 | true,[]=>by simp
 | false,[]=>by simp
 | true,c :: r=>by
  have h1:=skip_head true r;have h2:=skip_head false r;intro x;simp only[skipF];split
  .rw[Nat.add_comm,drop_succ_cons];exact h2 x
  .rw[Nat.add_comm,drop_succ_cons];exact h1 x
 | false,c :: r=>by
  have h1:=skip_head true r;have h2:=skip_head false r;intro x;simp only[skipF];split
  .rw[Nat.add_comm,drop_succ_cons];exact h2 x
  .split
   .rw[Nat.add_comm,drop_succ_cons];exact h1 x
   .intro h;simp at h;subst h;exact⟨by simp_all,by assumption⟩
end Lx
end
section
open Go.RowKit
theorem Jy(b:Nat)(w:World)(h0:w.cell? ⟨b,0,none⟩=some (pt b 0)) :
  AA 123 #[pt b 0] w λ e w'=>e=.returned (.tuple #[])/\w'=w:=by
 obtain⟨j,hj,_⟩:=Option.map_eq_some_iff.1 (show (prog.info? 82).map (·.size)=some 2 by kernel_rfl)
 go_enter func123,ntmps123;go_wp2;rw[Lib.run_neq_ptr_same w _ underlying80 hj];go_wp2
 go_end0
 exact⟨rfl,rfl⟩
theorem Pm(b:Nat)(w:World)(h0:w.cell? ⟨b,0,none⟩=some (.pointer none))(a3:w.shape? b=some (82,2))(a5:w.frozen? ⟨b,0,none⟩=false) :
  AA 123 #[pt b 0] w λ e w'=>e=.returned (.tuple #[])/\w'=w.setCell ⟨b,0,none⟩ (pt b 0):=by
 obtain⟨j,hj,a4⟩:=Option.map_eq_some_iff.1 (show (prog.info? 82).map (·.size)=some 2 by kernel_rfl)
 have a0:liesAt prog prog.depth 82 (2 / prog.cellsOf 82) 0 82 1=true:=by kernel_rfl
 go_enter func123,ntmps123;go_wp2;rw[Lib.run_to_unsafe w ⟨b,0,none⟩ underlying80 underlying165 hj (by rw[a4];decide) a3 (Nat.zero_lt_succ 1)];simp only[Result.andThen];rw[Oper.upon_value];go_wp2;rw[run_callFunc_extern func151 (by kernel_rfl) (by kernel_rfl) (by kernel_rfl) (e:=Extern.AbiNoEscape.same) (by kernel_rfl)];rw[Lib.run_noEscape];simp only[Result.andThen];rw[Oper.upon_value];go_wp2;rw[Lib.run_from_unsafe w ⟨b,0,none⟩ underlying165 underlying80 hj a3 a0];simp only[Result.andThen];rw[Oper.upon_value];go_wp2
 go_end0
 exact⟨rfl,rfl⟩
abbrev IsB(B b:Nat)(bs:AR)(w:World):Prop:=Lib.IsBuilderF 82 5 B b bs w
theorem Wb(B b:Nat)(bs:AR)(w:World)(h:IsB B b bs w) :
  AA 123 #[pt b 0] w λ e w'=>e=.returned (.tuple #[])/\(Lib.BuilderAtF 82 5 B b (pt b 0) bs w'/\Below B w w'):=by
 rcases h with h | h
 .refine (Pm b w h.cell0 h.shape h.frozen0).mono ?_;rintro e w' ⟨rfl,rfl⟩;exact⟨rfl,h.used _,(AF B w).setCell (p:=⟨b,0,none⟩) h.1 _⟩
 .refine (Jy b w h.cell0).mono ?_;rintro e w' ⟨rfl,rfl⟩;exact⟨rfl,h,AF B _⟩
theorem Eg(B b:Nat)(bs:AR)(c:Int)(w:World)(h:IsB B b bs w)(aa:bs.length+1<=140737488355328)(ad:B<=w.heap.size) :
  AA 132 #[pt b 0,.int .u8 c] w λ e w'=>e=.returned .nilIface/\(IsB B b (bs ++ [.int .u8 c]) w'/\Below B w w'):=by
 obtain⟨i0,hi,hz⟩:=Option.map_eq_some_iff.1 (show (prog.info? 5).map (λ i=>(i.zero,i.size,i.bytes))=some (some (.int .u8 0),1,1) by kernel_rfl);simp only[Prod.mk.injEq] at hz;obtain⟨a8,a9,ab⟩:=hz;go_enter func132,ntmps132;go_wp2_with (go_at_call 123;refine (Wb B b bs _ h).mono ?_);rintro e w1 ⟨rfl,h1,a5⟩;obtain⟨hB,v,a3,a0,a7⟩:=h1;have c0:w1.cell? ⟨b,0,none⟩=some (pt b 0):=by rw[Lib.cell_of_heap a3];rfl
 have c1:w1.cell? ⟨b,1,none⟩=some v:=by rw[Lib.cell_of_heap a3];rfl
 go_wp2_with (at_builtin;refine wpList_append_ownF _ rfl _ _ 78 rfl B 5 i0 (.int .u8 0) 1 1 underlying78 hi a8 a9 ab rfl (by decide) _ _ _ rfl (a0.alloc _) ⟨w1.heap.size,0,none⟩ 1 1 [.int .u8 c] rfl rfl ?c1 ?c2 ?c3 ?c4 ?c5 ?_)
 case c1=>
  intro j u hj
  match j,hj with
  | 0,hj=>simp at hj;subst hj;simp[Addr.add]
 case c2=>intro u hu;simp at hu;subst hu;rfl
 case c3=>unfold maxLen;omega
 case c4=>omega
 case c5=>have:=a5.size;simp;omega
 intro v' w2 hown' hgrow _;have a6:b<w1.heap.size:=by
  rcases Nat.lt_or_ge b w1.heap.size with h' | h'
  .exact h'
  .simp[Array.getElem?_eq_none h'] at a3
 have a4:w2.heap[b]?=some (.cells #[pt b 0,v] 82 (0,0)):=by
  rw[hgrow.block b (by simp;omega) (λ e=>a7 e.symm),Lib.alloc_old w1 _ b a6];exact a3
 have d0:w2.cell? ⟨b,0,none⟩=some (pt b 0):=by rw[Lib.cell_of_heap a4];rfl
 have d1:w2.cell? ⟨b,1,none⟩=some v:=by rw[Lib.cell_of_heap a4];rfl
 have f1:w2.frozen? ⟨b,1,none⟩=false:=Lib.frozen_of_heap a4 1;obtain⟨g,cap,rfl⟩:∃g cap,v'=sL g 0 (bs.length+1) cap:=by
  rcases hown'.2 with⟨_,h0⟩ | ⟨g,cap,cur,fz,hv,_⟩
  .omega
  .exact⟨g,cap,hv⟩
 go_wp2;go_ret;refine⟨rfl,AJ ?_,?_⟩
 .exact Lib.BuilderAtF.put (T:=82) (e:=5) hB a4 (bs':=bs ++ [.int .u8 c]) (by simpa using hown') (by decide)
 .exact ((a5.alloc (by have:=a5.size;omega) _).grown hgrow (by have:=a5.size;simp;omega) (λ k hk=>(a0.lt k hk).1)).setCell (p:=⟨b,1,none⟩) hB _
theorem Jz(B b:Nat)(l:AQ)(w:World)(h:IsB B b (Lib.byteCells l) w)(a0:B<=w.heap.size) :
  AA 37 #[pt b 0] w λ e w'=>e=.returned (.string ⟨l.toArray⟩)/\Below B w w':=by
 refine (Tryz.Builder_String_any_k B b l w h a0).mono ?_;rintro e w' ⟨rfl,_,hb,_⟩;exact⟨rfl,hb⟩
theorem Af9(B b:Nat)(bs:AR)(w:World)(h:IsB B b bs w) :
  AA 64 #[pt b 0] w λ e w'=>e=.returned (iv bs.length)/\w'=w:=Tryz.Builder_Len_f B b bs w h
theorem Gl{B:Nat}(hB:B<=b)(h:w.heap[b]?=some (.cells #[.pointer none,sZ] 82 (0,0))):IsB B b [] w:=
 AI (Lib.BuilderAtF.of ⟨hB,sZ,h,by exact⟨rfl,AI ⟨rfl,rfl⟩⟩,by simp[Value.ownBlock]⟩)
theorem ret_bool{a b:Bool}(h:a=b):Ending.returned (.bool a)=.returned (.bool b):=by rw[h]
theorem ret_int{k:IntKind}{a b:Int}(h:a=b):Ending.returned (.int k a)=.returned (.int k b):=by rw[h]
theorem isLetter_any(c:UInt8)(w:World):AA 100 #[.int .u8 c.toNat] w λ e w'=>e=.returned (.bool (Lx.isLetter c))/\w'=w:=by
 have e:Lx.isLetter c=decide ((97<=(c.toNat:Int)/\(c.toNat:Int)<=122)\/(c.toNat:Int)=95):=by
  rw[Bool.eq_iff_iff];simp[Lx.isLetter,UInt8.le_iff_toNat_le,<-UInt8.toNat_inj];try omega
 rw[e];clear e;go_enter func100,ntmps100;go_wp2
 all_goals
  go_ret;exact⟨ret_bool (by first | rfl | (rw[Bool.eq_iff_iff];simp only[decide_eq_true_eq,Bool.or_eq_true,Bool.and_eq_true,bne_iff_ne,beq_iff_eq,ne_eq,true_iff,Bool.false_eq_true,false_iff,not_or,not_and];done) | (rw[Bool.eq_iff_iff];simp only[decide_eq_true_eq,Bool.or_eq_true,Bool.and_eq_true,bne_iff_ne,beq_iff_eq,ne_eq,true_iff,Bool.false_eq_true,false_iff,not_or,not_and];omega)),rfl⟩
theorem isDigit_any(c:UInt8)(w:World):AA 102 #[.int .u8 c.toNat] w λ e w'=>e=.returned (.bool (Lx.isDigit c))/\w'=w:=by
 have e:Lx.isDigit c=decide (48<=(c.toNat:Int)/\(c.toNat:Int)<=57):=by
  rw[Bool.eq_iff_iff];simp[Lx.isDigit,UInt8.le_iff_toNat_le,<-UInt8.toNat_inj];try omega
 rw[e];clear e;go_enter func102,ntmps102;go_wp2
 all_goals
  go_ret;exact⟨ret_bool (by first | rfl | (rw[Bool.eq_iff_iff];simp only[decide_eq_true_eq,Bool.or_eq_true,Bool.and_eq_true,bne_iff_ne,beq_iff_eq,ne_eq,true_iff,Bool.false_eq_true,false_iff,not_or,not_and];done) | (rw[Bool.eq_iff_iff];simp only[decide_eq_true_eq,Bool.or_eq_true,Bool.and_eq_true,bne_iff_ne,beq_iff_eq,ne_eq,true_iff,Bool.false_eq_true,false_iff,not_or,not_and];omega)),rfl⟩
theorem Po(c:UInt8)(w:World):AA 97 #[.int .u8 c.toNat] w λ e w'=>e=.returned (.bool (Lx.isBlank c))/\w'=w:=by
 have e:Lx.isBlank c=decide (((c.toNat:Int)=32\/(c.toNat:Int)=10)\/(c.toNat:Int)=9):=by
  rw[Bool.eq_iff_iff];simp[Lx.isBlank,UInt8.le_iff_toNat_le,<-UInt8.toNat_inj];try omega
 rw[e];clear e;go_enter func97,ntmps97;go_wp2
 all_goals
  go_ret;exact⟨ret_bool (by first | rfl | (rw[Bool.eq_iff_iff];simp only[decide_eq_true_eq,Bool.or_eq_true,Bool.and_eq_true,bne_iff_ne,beq_iff_eq,ne_eq,true_iff,Bool.false_eq_true,false_iff,not_or,not_and];done) | (rw[Bool.eq_iff_iff];simp only[decide_eq_true_eq,Bool.or_eq_true,Bool.and_eq_true,bne_iff_ne,beq_iff_eq,ne_eq,true_iff,Bool.false_eq_true,false_iff,not_or,not_and];omega)),rfl⟩
theorem N2(c:UInt8)(w:World):AA 99 #[.int .u8 c.toNat] w λ e w'=>e=.returned (.bool (Lx.isInNote c))/\w'=w:=by
 have e:Lx.isInNote c=decide (¬(c.toNat:Int)=10):=by
  rw[Bool.eq_iff_iff];simp[Lx.isInNote,UInt8.le_iff_toNat_le,<-UInt8.toNat_inj];try omega
 rw[e];clear e;go_enter func99,ntmps99;go_wp2
 all_goals
  go_ret;exact⟨ret_bool (by first | rfl | (rw[Bool.eq_iff_iff];simp only[decide_eq_true_eq,Bool.or_eq_true,Bool.and_eq_true,bne_iff_ne,beq_iff_eq,ne_eq,true_iff,Bool.false_eq_true,false_iff,not_or,not_and];done) | (rw[Bool.eq_iff_iff];simp only[decide_eq_true_eq,Bool.or_eq_true,Bool.and_eq_true,bne_iff_ne,beq_iff_eq,ne_eq,true_iff,Bool.false_eq_true,false_iff,not_or,not_and];omega)),rfl⟩
theorem Fd(c:UInt8)(w:World):AA 134 #[.int .u8 c.toNat] w λ e w'=>e=.returned (.bool (Lx.isPlain c))/\w'=w:=by
 have e:Lx.isPlain c=decide (32<=(c.toNat:Int)/\(c.toNat:Int)<=126):=by
  rw[Bool.eq_iff_iff];simp[Lx.isPlain,UInt8.le_iff_toNat_le,<-UInt8.toNat_inj];try omega
 rw[e];clear e;go_enter func134,ntmps134;go_wp2
 all_goals
  go_ret;exact⟨ret_bool (by first | rfl | (rw[Bool.eq_iff_iff];simp only[decide_eq_true_eq,Bool.or_eq_true,Bool.and_eq_true,bne_iff_ne,beq_iff_eq,ne_eq,true_iff,Bool.false_eq_true,false_iff,not_or,not_and];done) | (rw[Bool.eq_iff_iff];simp only[decide_eq_true_eq,Bool.or_eq_true,Bool.and_eq_true,bne_iff_ne,beq_iff_eq,ne_eq,true_iff,Bool.false_eq_true,false_iff,not_or,not_and];omega)),rfl⟩
theorem needs_any(c:UInt8)(w:World):AA 159 #[.int .u8 c.toNat] w λ e w'=>e=.returned (.bool (Lx.isEsc c))/\w'=w:=by
 have e:Lx.isEsc c=decide ((c.toNat:Int)=34\/(c.toNat:Int)=92):=by
  rw[Bool.eq_iff_iff];simp[Lx.isEsc,UInt8.le_iff_toNat_le,<-UInt8.toNat_inj];try omega
 rw[e];clear e;go_enter func159,ntmps159;go_wp2
 all_goals
  go_ret;exact⟨ret_bool (by first | rfl | (rw[Bool.eq_iff_iff];simp only[decide_eq_true_eq,Bool.or_eq_true,Bool.and_eq_true,bne_iff_ne,beq_iff_eq,ne_eq,true_iff,Bool.false_eq_true,false_iff,not_or,not_and];done) | (rw[Bool.eq_iff_iff];simp only[decide_eq_true_eq,Bool.or_eq_true,Bool.and_eq_true,bne_iff_ne,beq_iff_eq,ne_eq,true_iff,Bool.false_eq_true,false_iff,not_or,not_and];omega)),rfl⟩
theorem R7(c:UInt8)(w:World):AA 130 #[.int .u8 c.toNat] w λ e w'=>e=.returned (.bool (Lx.isPart c))/\w'=w:=by
 unfold Lx.isPart;rcases hl:Lx.isLetter c with _ | _
 all_goals
  go_enter func130,ntmps130;go_wp2_with (first | (go_at_call 100;refine (isLetter_any _ _).mono ?_;rintro e w' ⟨rfl,rfl⟩) | (go_at_call 102;refine (isDigit_any _ _).mono ?_;rintro e w' ⟨rfl,rfl⟩));go_ret;exact⟨ret_bool (by simp),rfl⟩
def Pp(K:Nat)(p:UInt8->Bool):Prop:=∀(c:UInt8) (w:World),AA K #[.int .u8 c.toNat] w λ e w'=>e=.returned (.bool (p c))/\w'=w
theorem count_any(s:ByteArray)(K:Nat)(p:UInt8->Bool)(w:World)(hs:s.size<=maxLen)(hK:Pp K p)(hr:∀(args:Array Value) (w:World),(callFunc K args).run prog w=.ok (.enter K args) w) :
  AA 129 #[.string s,.func (.func K) #[] #[]] w λ e w'=>e=.returned (iv ((s.data.toList.takeWhile p).length:Nat))/\w'=w:=by
 unfold maxLen at hs;go_enter func129,ntmps129;go_wp2
 go_loop [5] (λ i=>∃k:Nat,k<=(s.data.toList.takeWhile p).length/\i=iv k) (λ i=>s.size - (intOf i).toNat)
 case atStart=>exact⟨0,AO _,rfl⟩
 case round=>
  obtain⟨k,hk,rfl⟩:=hrel;have a3:(s.data.toList.takeWhile p).length<=s.size:=by simpa using Lx.tw_le (p:=p) s.data.toList
  by_cases hlt:k<s.size
  .by_cases hp:p s[k]=true
   .go_wp2_with (go_at_fn K;refine (hK _ _).mono ?_;rintro e w' ⟨rfl,rfl⟩)
    go_round
    case rel=>exact⟨k+1,Lx.tw_step hk (by simpa using hlt) (show p (s.data.toList[k]'(by simpa using hlt))=true from hp),by go_num⟩
    case measure=>simp[intOf];omega
   .have a0:p s[k]=false:=by simpa using hp
    go_wp2_with (go_at_fn K;refine (hK _ _).mono ?_;rintro e w' ⟨rfl,rfl⟩)
    go_ret;exact⟨ret_int (by rw[Lx.tw_stop hk (by simpa using hlt) (show p (s.data.toList[k]'(by simpa using hlt))=false from a0)]),rfl⟩
  .go_wp2;go_ret;exact⟨ret_int (by rw[Lx.tw_end hk (by simpa using hlt)]),rfl⟩
structure At(b:Nat)(s:ByteArray)(i:Nat)(w:World):Prop where
 text:w.cell? ⟨b,0,none⟩=some (.string s)
 spot:w.cell? ⟨b,1,none⟩=some (iv i)
 free:w.frozen? ⟨b,1,none⟩=false
 there:b<w.heap.size
def Mv(b j:Nat)(w w':World):Prop:=Below w.heap.size (w.setCell ⟨b,1,none⟩ (iv j)) w'
theorem Md(b:Nat)(s:ByteArray)(i:Nat)(w:World)(h:At b s i w)(hs:s.size<=maxLen)(hi:i<=s.size) :
  AA 98 #[pt b 0] w λ e w'=>e=.returned (.bool (decide (i=s.size)))/\∃n,w'=w.drewN n:=by
 unfold maxLen at hs;obtain⟨h0,h1,h2,h3⟩:=h;go_enter func98,ntmps98;go_wp2
 go_quiet (fail)
 go_wp2;go_ret;exact⟨ret_bool (by rw[Bool.eq_iff_iff];simp;omega),_,rfl⟩
theorem ext_list(s:ByteArray)(i j:Nat):(s.extract i j).data.toList=(s.data.toList.take j).drop i:=by
 rw[ByteArray.data_extract];simp[Array.toList_extract,extract_eq_take_drop];rw[take_drop];by_cases h:i<=j
 .rw[Nat.add_sub_of_le h]
 .rw[drop_eq_nil_of_le (by simp;omega),drop_eq_nil_of_le (by simp;omega)]
theorem ext_size(h:j<=s.size):(s.extract i j).size=j - i:=by
 simp[ByteArray.size_extract];omega
def run(s:ByteArray)(i:Nat)(p:UInt8->Bool):Nat:=((s.data.toList.drop i).takeWhile p).length
theorem Fe(s:ByteArray)(i:Nat)(p:UInt8->Bool)(hi:i<=s.size):i+run s i p<=s.size:=by
 have:=Lx.tw_le (p:=p) (s.data.toList.drop i);unfold run;simp at this;omega
theorem X5(b:Nat)(s:ByteArray)(i K:Nat)(p:UInt8->Bool)(w:World)(h:At b s i w)(hs:s.size<=maxLen)(hi:i<=s.size)(hK:Pp K p)(hr:∀(args:Array Value) (w:World),(callFunc K args).run prog w=.ok (.enter K args) w) :
  AA 96 #[pt b 0,.func (.func K) #[] #[]] w λ e w'=>e=.returned (.string (s.extract i (i+run s i p)))/\∃n,w'=(w.setCell ⟨b,1,none⟩ (iv ((i+run s i p:Nat):Int))).drewN n:=by
 obtain⟨h0,h1,h2,h3⟩:=h;have a0:=Fe s i p hi;have hc:∀w1:World,AA 129 #[.string (s.extract i s.size),.func (.func K) #[] #[]] w1 λ e w'=>e=.returned (iv (run s i p:Nat))/\w'=w1:=by
  intro w1;refine (count_any (s.extract i s.size) K p w1 (by rw[ext_size (Nat.le_refl _)];omega) hK hr).mono ?_;rintro e w' ⟨rfl,rfl⟩;refine⟨ret_int ?_,rfl⟩;rw[ext_list,run,take_of_length_le (by simp)]
 unfold maxLen at hs;have a4:(i:Int)+(run s i p:Int)<=9223372036854775807:=by omega
 have a3:(i:Int)+(run s i p:Int)<=(s.size:Int):=by omega
 have a5:IntKind.i64.wrap ((i:Int)+(run s i p:Int))=(i:Int)+(run s i p:Int):=IntWalk.i64_in _ (by omega);go_enter func96,ntmps96;go_wp2
 go_region_with (go_at_call 129;refine (hc _).mono ?_;rintro e w' ⟨rfl,rfl⟩)
 all_goals
  simp only[Exit.then];refine ‹∀(a:Act) (w:World),_->_› _ _ ?_;go_wp2
  go_quiet (fail)
  go_wp2;go_ret;exact⟨rfl,_,by rw[show ((i+run s i p:Nat):Int)=(i:Int)+(run s i p:Int) by omega];simp only[World.drewN_drew,World.drewN_drewN];rfl⟩
theorem below_drewN{B:Nat}{a:World}(h:Below B a w)(n:Nat):Below B a (w.drewN n):=h.trans ⟨rfl,rfl,rfl,AD _,λ _ _=>rfl⟩
theorem Lu(w:World)(a:Addr)(u v:Value):(w.setCell a u).setCell a v=w.setCell a v:=by
 unfold World.setCell;congr 1;apply Array.ext_getElem?;intro k;simp only[Array.getElem?_modify];by_cases hk:a.block=k
 .simp only[if_pos hk,Option.map_map];cases w.heap[k]? with
  | none=>rfl
  | some o=>
   cases o <;> simp
   split <;> simp
 .simp only[if_neg hk]
theorem Gm{B:Nat}(h:Below B w w')(a:Addr)(v:Value):Below B (w.setCell a v) (w'.setCell a v):=by
 refine⟨h.os,h.tape,h.output,by simpa [World.setCell] using h.size,λ k hk=>?_⟩;simp only[World.setCell,Array.getElem?_modify];rw[h.block k hk]
theorem Mv.of_eq{n:Nat}(h:w'=(w.setCell ⟨b,1,none⟩ (iv (j:Int))).drewN n):Mv b j w w':=by
 subst h;exact below_drewN (AF _ _) n
theorem Mv.size(h:Mv b j w w'):w.heap.size<=w'.heap.size:=by
 have:=Below.size h;simpa [World.setCell] using this
theorem Mv.trans(h:Mv b i w w1)(k:Mv b j w1 w2):Mv b j w w2:=by
 have h1:=Gm h ⟨b,1,none⟩ (iv (j:Int));rw[Lu] at h1;exact h1.trans (k.mono h.size)
theorem Mv.below(h:Mv b j w w1)(k:Below w1.heap.size w1 w2):Mv b j w w2:=Below.trans h (k.mono h.size)
theorem Mv.below'{B:Nat}(h:Mv b j w w1)(k:Below B w1 w2)(hB:w.heap.size<=B):Mv b j w w2:=Below.trans h (k.mono hB)
theorem At.move(h:At b s i w)(m:Mv b j w w'):At b s j w':=by
 obtain⟨h0,h1,h2,h3⟩:=h;refine⟨?_,?_,?_,by have:=m.size;omega⟩
 .rw[Below.cell m (p:=⟨b,0,none⟩) h3,World.cell?_setCell_other _ _ _ _ (by simp)];exact h0
 .rw[Below.cell m (p:=⟨b,1,none⟩) h3];exact World.cell?_setCell_same _ _ _ h1
 .rw[Below.frozen m (p:=⟨b,1,none⟩) h3,World.frozen?_setCell];exact h2
theorem At.below{B:Nat}(h:At b s i w)(m:Below B w w')(hB:b<B):At b s i w':=by
 obtain⟨h0,h1,h2,h3⟩:=h;exact⟨by rw[m.cell (p:=⟨b,0,none⟩) hB];exact h0,by rw[m.cell (p:=⟨b,1,none⟩) hB];exact h1,by rw[m.frozen (p:=⟨b,1,none⟩) hB];exact h2,by have:=m.size;omega⟩
theorem R8{a:Addr}(h:w.cell? a=some v)(ha:a.spot=none):∀k:Nat,(w.setCell a v).heap[k]?=w.heap[k]?:=by
 intro k;simp only[World.setCell,Array.getElem?_modify];by_cases hk:a.block=k
 .simp only[if_pos hk];unfold World.cell? at h;subst hk;rcases hh:w.heap[a.block]? with _ | o
  .rfl
  .rw[hh] at h;cases o <;> simp at h ⊢
   rename_i c e f;rw[ha] at h ⊢;simp at h ⊢;apply Array.ext_getElem?;intro x;rw[Array.getElem?_setIfInBounds];split
   .rename_i hx;subst hx;split
    .exact h.symm
    .rename_i hx;rw[Array.getElem?_eq_none (by omega)]
   .rfl
 .simp only[if_neg hk]
theorem Mv.refl(h:At b s i w):Mv b i w w:=
 ⟨rfl,rfl,rfl,by simp[World.setCell],λ k _=>(R8 h.spot rfl k).symm⟩
theorem Am6:Pp 97 Lx.isBlank:=Po
theorem kInNote:Pp 99 Lx.isInNote:=N2
theorem X6:Pp 130 Lx.isPart:=R7
theorem J1:Pp 102 Lx.isDigit:=isDigit_any
theorem Am7:Pp 134 Lx.isPlain:=Fd
theorem Am8(args:Array Value)(w:World):(callFunc 97 args).run prog w=.ok (.enter 97 args) w:=enters_of func97 (by kernel_rfl) rfl args w
theorem eInNote(args:Array Value)(w:World):(callFunc 99 args).run prog w=.ok (.enter 99 args) w:=enters_of func99 (by kernel_rfl) rfl args w
theorem X7(args:Array Value)(w:World):(callFunc 130 args).run prog w=.ok (.enter 130 args) w:=enters_of func130 (by kernel_rfl) rfl args w
theorem J2(args:Array Value)(w:World):(callFunc 102 args).run prog w=.ok (.enter 102 args) w:=enters_of func102 (by kernel_rfl) rfl args w
theorem Am9(args:Array Value)(w:World):(callFunc 134 args).run prog w=.ok (.enter 134 args) w:=enters_of func134 (by kernel_rfl) rfl args w
def gap(s:ByteArray)(i:Nat):Nat:=Lx.skipF false (s.data.toList.drop i)
theorem R9(s:ByteArray)(i:Nat)(hi:i<=s.size):i+gap s i<=s.size:=by
 have:=Lx.skip_le false (s.data.toList.drop i);unfold gap;simp at this;omega
theorem Sa(s:ByteArray)(i:Nat):gap s i=run s i Lx.isBlank+gap s (i+run s i Lx.isBlank):=by
 unfold gap run;rw[<-drop_drop];exact Lx.skip_blanks _
theorem Ya(s:ByteArray)(i:Nat)(h:i<s.size)(hh:s[i]=35):gap s i=run s i Lx.isInNote+gap s (i+run s i Lx.isInNote)/\1<=run s i Lx.isInNote:=by
 have e:s.data.toList.drop i=35 :: s.data.toList.drop (i+1):=by
  rw[drop_eq_getElem_cons (by simpa using h)];congr 1
 unfold gap run;rw[<-drop_drop,e];exact⟨Lx.skip_hash _,by rw[takeWhile_cons_of_pos (by rfl)];simp⟩
theorem Yb(s:ByteArray)(i:Nat)(h:i<s.size)(hb:Lx.isBlank s[i]=false)(hh:s[i]≠35):gap s i=0:=by
 have e:s.data.toList.drop i=s[i] :: s.data.toList.drop (i+1):=by
  rw[drop_eq_getElem_cons (by simpa using h)];congr 1
 unfold gap;rw[e];apply Lx.skip_none;intro c hc;simp at hc;subst hc;exact⟨hb,hh⟩
theorem Yc(s:ByteArray)(i:Nat)(p:UInt8->Bool)(hi:i<=s.size)(h:i+run s i p<s.size):p s[i+run s i p]=false:=by
 have a0:run s i p<(s.data.toList.drop i).length:=by simp;omega
 rcases hq:p s[i+run s i p] with _ | _
 .rfl
 .have:=Lx.tw_step (l:=s.data.toList.drop i) (k:=run s i p) (p:=p) (AD _) a0 (by
   rw[List.getElem_drop];exact hq)
  unfold run at this;omega
theorem take_mv(b:Nat)(s:ByteArray)(i K:Nat)(p:UInt8->Bool)(w:World)(h:At b s i w)(hs:s.size<=maxLen)(hi:i<=s.size)(hK:Pp K p)(hr:∀(args:Array Value) (w:World),(callFunc K args).run prog w=.ok (.enter K args) w) :
  AA 96 #[pt b 0,.func (.func K) #[] #[]] w λ e w'=>e=.returned (.string (s.extract i (i+run s i p)))/\Mv b (i+run s i p) w w':=by
 refine (X5 b s i K p w h hs hi hK hr).mono ?_;rintro e w' ⟨rfl,n,hw⟩;exact⟨rfl,Mv.of_eq hw⟩
theorem At.drewN(h:At b s i w)(n:Nat):At b s i (w.drewN n):=⟨h.text,h.spot,h.free,h.there⟩
theorem F3(b:Nat)(s:ByteArray)(w:World)(h:At b s s.size w)(hs:s.size<=maxLen) :
  AA 98 #[pt b 0] w λ e w'=>e=.returned (.bool true)/\∃n,w'=w.drewN n:=by
 refine (Md b s s.size w h hs (AD _)).mono ?_;rintro e w' ⟨rfl,hw⟩;exact⟨ret_bool (by simp),hw⟩
theorem C5(b:Nat)(s:ByteArray)(i:Nat)(w:World)(h:At b s i w)(hs:s.size<=maxLen)(hi:i<s.size) :
  AA 98 #[pt b 0] w λ e w'=>e=.returned (.bool false)/\∃n,w'=w.drewN n:=by
 refine (Md b s i w h hs (by omega)).mono ?_;rintro e w' ⟨rfl,hw⟩;exact⟨ret_bool (by simp;omega),hw⟩
theorem Yd(b:Nat)(s:ByteArray)(i:Nat)(w:World)(h:At b s i w)(hs:s.size<=maxLen)(hi:i<=s.size) :
  AA 65 #[pt b 0] w λ e w'=>e=.returned (.tuple #[])/\Mv b (i+gap s i) w w':=by
 go_enter func65,ntmps65;go_wp2
 go_loopg [] (s.size - i) (λ g wr=>∃j,j<=s.size/\g=s.size - j/\Aside (j+gap s j=i+gap s i)/\At b s j wr/\Mv b j w wr)
 case atStart=>exact⟨i,hi,rfl,rfl,h,Mv.refl h⟩
 case round=>
  obtain⟨j,hj,rfl,hg,a9,ad⟩:=hrel;go_wp2_with (go_at_call 96;refine (take_mv b s j _ _ _ a9 hs hj Am6 Am8).mono ?_;rintro e w1 ⟨rfl,ab⟩);have a0:=a9.move ab;have a3:=ad.trans ab;clear ab a9 ad;have a6:=Fe s j Lx.isBlank hj;have a4:Aside (gap s j=run s j Lx.isBlank+gap s (j+run s j Lx.isBlank)):=Sa s j;have a7:Aside (∀h:j+run s j Lx.isBlank<s.size,Lx.isBlank s[j+run s j Lx.isBlank]=false):=Yc s j Lx.isBlank hj;have aa:j<=j+run s j Lx.isBlank:=Nat.le_add_right _ _;have ag:∃j1,Aside (j1=j+run s j Lx.isBlank)/\At b s j1 w1/\Mv b j1 w w1/\j1<=s.size/\Aside (gap s j=run s j Lx.isBlank+gap s j1)/\Aside (∀h:j1<s.size,Lx.isBlank s[j1]=false)/\j<=j1:=⟨_,rfl,a0,a3,a6,a4,a7,aa⟩;clear a0 a3 a6 a4 a7 aa;obtain⟨j1,a8,a0,a3,a6,a4,a7,aa⟩:=ag;by_cases hend:j1=s.size
  .subst hend;go_wp2_with fail
   go_quiet ((go_at_call 98;exact Calls.quiet_of (F3 b s _ (a0.drewN _) hs)))
   go_wp2;refine bodyPost_ret (results_none rfl _ _ _) rfl ⟨rfl,?_⟩;have e1:=hg.out;have e2:=a4.out;have e0:=a8.out;have e3:=R9 s s.size (AD _);have e4:=R9 s j hj;rw[show i+gap s i=s.size by omega];exact a3.below' (below_drewN (AF _ _) _) (AD _)
  .have a5:j1<s.size:=by omega
   obtain⟨c0,c1,c2,c3⟩:=a0;have a0:At b s j1 w1:=⟨c0,c1,c2,c3⟩;have af:Aside (Lx.isBlank s[j1]=false):=a7.out a5;by_cases hh:s[j1]=35
   .have hz:((s[j1].toNat:Int) != 35)=false:=by rw[hh];rfl
    go_wp2_with fail
    go_quiet ((go_at_call 98;exact Calls.quiet_of (C5 b s j1 _ (a0.drewN _) hs a5)))
    go_wp2_with (go_at_call 96;refine (take_mv b s j1 _ _ _ (a0.drewN _) hs a6 kInNote eInNote).mono ?_;rintro e w2 ⟨rfl,ae⟩)
    obtain⟨e3,e5⟩:=Ya s j1 a5 hh;go_roundg (s.size - (j1+run s j1 Lx.isInNote))
    case measure=>omega
    case rel=>
     have e1:=hg.out;have e2:=a4.out;have e0:=a8.out;have e6:=Fe s j1 Lx.isInNote a6;exact⟨_,e6,rfl,by show _=_;omega,(a0.drewN _).move ae,(a3.below' (below_drewN (AF _ _) _) (AD _)).trans ae⟩
   .have hz:((s[j1].toNat:Int) != 35)=true:=by
     have:s[j1].toNat≠35:=λ e=>hh (UInt8.toNat_inj.1 e)
     simp;omega
    go_wp2_with fail
    go_quiet ((go_at_call 98;exact Calls.quiet_of (C5 b s j1 _ (a0.drewN _) hs a5)))
    go_wp2;refine bodyPost_ret (results_none rfl _ _ _) rfl ⟨rfl,?_⟩;have e1:=hg.out;have e2:=a4.out;have e0:=a8.out;have e3:=Yb s j1 a5 af.out hh;rw[show i+gap s i=j1 by omega];exact a3.below' (below_drewN (AF _ _) _) (AD _)
def Cu(a e:Nat):List PanicEntry:=[{ v:=.iface 113 (.agg #[iv a,iv e]),recovered:=false }]
@[reducible] def Cv (k:Nat) (t:ByteArray) (num i:Nat):Value:=.agg #[iv k,.string t,iv num,iv i]
theorem Mv.past{w0:World}(hb:Below w.heap.size w w0)(m:Mv b j w0 w'):Mv b j w w':=
 (Gm hb ⟨b,1,none⟩ (iv (j:Int))).trans (m.mono hb.size)
theorem Mv.kept(m:Mv b j w w'){k:Nat}(hk:k<w.heap.size)(a0:k≠b):w'.heap[k]?=w.heap[k]?:=by
 rw[Below.block m k hk];exact AG _ _ _ _ a0
def C3(r:Nat)(w:World):Prop:=∃a t c d,w.heap[r]?=some (.cells #[a,t,c,d] 93 (0,0))
abbrev Ce:Obj:=.cells #[iv 0,sE,iv 0,iv 0] 93
theorem C3.new(w:World):C3 w.heap.size (w.alloc Ce):=⟨_,_,_,_,by show (w.heap.push _)[w.heap.size]?=_;rw[Array.getElem?_push,if_pos rfl]⟩
theorem C3.lt{r:Nat}(h:C3 r w):r<w.heap.size:=by
 obtain⟨a,t,c,d,h⟩:=h;exact (AB h).1
theorem C3.mv{r:Nat}(h:C3 r w)(m:Mv b j w w')(a0:r≠b):C3 r w':=by
 have hl:=h.lt;obtain⟨a,t,c,d,h⟩:=h;exact⟨a,t,c,d,(m.kept hl a0).trans h⟩
theorem C3.below{r B:Nat}(h:C3 r w)(m:Below B w w')(hB:r<B):C3 r w':=by
 obtain⟨a,t,c,d,h⟩:=h;exact⟨a,t,c,d,(m.block r hB).trans h⟩
theorem C3.cells{r:Nat}(h:C3 r w):∃a t c d,w.cell? ⟨r,0,none⟩=some a/\w.cell? ⟨r,1,none⟩=some t/\w.cell? ⟨r,2,none⟩=some c/\w.cell? ⟨r,3,none⟩=some d /\
  w.frozen? ⟨r,0,none⟩=false/\w.frozen? ⟨r,1,none⟩=false/\w.frozen? ⟨r,2,none⟩=false/\w.frozen? ⟨r,3,none⟩=false:=by
 obtain⟨a,t,c,d,h⟩:=h;exact⟨a,t,c,d,by simp[World.cell?,h],by simp[World.cell?,h],by simp[World.cell?,h],by simp[World.cell?,h],by simp[World.frozen?,h],by simp[World.frozen?,h],by simp[World.frozen?,h],by simp[World.frozen?,h]⟩
theorem Mv.set(m:Mv b j w w'){p:Addr}(hp:w.heap.size<=p.block)(v:Value):Mv b j w (w'.setCell p v):=Below.setCell m hp v
theorem Mv.set4(m:Mv b j w w'){r:Nat}(hp:w.heap.size<=r)(x0 x1 x2 x3:Value) :
  Mv b j w ((((w'.setCell ⟨r,0,none⟩ x0).setCell ⟨r,1,none⟩ x1).setCell ⟨r,2,none⟩ x2).setCell ⟨r,3,none⟩ x3):=(((m.set (p:=⟨r,0,none⟩) hp x0).set (p:=⟨r,1,none⟩) hp x1).set (p:=⟨r,2,none⟩) hp x2).set (p:=⟨r,3,none⟩) hp x3
theorem giveUp_any(a e:Nat)(w:World):AA 67 #[iv a,iv e] w λ r w'=>r=.panicked (Cu a e)/\w'=w:=by
 go_enter func67,ntmps67;go_wp2;exact⟨rfl,rfl,rfl⟩
theorem F4(s:ByteArray)(w:World)(hs:s.size<=281474976710656) :
  AA 114 #[.string s] w λ e w'=>e=.returned (.string s)/\Below w.heap.size w w':=by
 go_enter func114,ntmps114;go_wp2_with (go_at_call 139;refine (Tryz.stringslite_Clone s _ hs).mono ?_;rintro e w1 ⟨rfl,hb⟩);go_ret;exact⟨rfl,hb⟩
theorem Ye(b:Nat)(s:ByteArray)(i:Nat)(w:World)(h:At b s i w)(hs:s.size<=16384)(hi:i<=s.size)(hn:16<run s i Lx.isPart) :
  AA 101 #[pt b 0] w λ e w'=>e=.panicked (Cu i 3)/\∃j,Mv b j w w':=by
 have a5:s.size<=maxLen:=by unfold maxLen;omega
 obtain⟨c0,c1,c2,c3⟩:=h;have h:At b s i w:=⟨c0,c1,c2,c3⟩;have a6:=Fe s i Lx.isPart hi;have a7:(s.extract i (i+run s i Lx.isPart)).size=run s i Lx.isPart:=by rw[ext_size a6];omega
 have a0:Below w.heap.size w (w.alloc Ce):=(AF _ _).alloc (AD _) _;have a3:=h.below a0 c3;go_enter func101,ntmps101;go_wp2_with (first
  |(go_at_call 96;refine (take_mv b s i _ _ _ a3 a5 hi X6 X7).mono ?_;rintro e w1 ⟨rfl,a4⟩)
  |(go_at_call 67;refine (giveUp_any i 3 _).mono ?_;rintro e w2 ⟨rfl,rfl⟩))
 exact⟨rfl,rfl,_,a4.past a0⟩
theorem Ag1(b:Nat)(s:ByteArray)(i:Nat)(w:World)(h:At b s i w)(hs:s.size<=16384)(hi:i<=s.size)(hn:run s i Lx.isPart<=16) :
  AA 101 #[pt b 0] w λ e w'=>e=.returned (Cv 1 (s.extract i (i+run s i Lx.isPart)) 0 i)/\Mv b (i+run s i Lx.isPart) w w':=by
 have a8:s.size<=maxLen:=by unfold maxLen;omega
 obtain⟨c0,c1,c2,c3⟩:=h;have h:At b s i w:=⟨c0,c1,c2,c3⟩;have aa:=Fe s i Lx.isPart hi;have a7:(s.extract i (i+run s i Lx.isPart)).size=run s i Lx.isPart:=by rw[ext_size aa];omega
 have a4:Below w.heap.size w (w.alloc Ce):=(AF _ _).alloc (AD _) _;have a6:=h.below a4 c3;go_enter func101,ntmps101;go_wp2_with (first
  |(go_at_call 96;refine (take_mv b s i _ _ _ a6 a8 hi X6 X7).mono ?_;rintro e w1 ⟨rfl,a3⟩))
 refine (F4 _ _ (by rw[a7];omega)).mono ?_;rintro e w2 ⟨rfl,a5⟩;have a0:=(C3.new w).mv a3 (by omega);have a9:=a0.below a5 a0.lt;obtain⟨x0,x1,x2,x3,d0,d1,d2,d3,f0,f1,f2,f3⟩:=a9.cells;go_wp2;exact bodyPost_ret (v:=Cv 1 (s.extract i (i+run s i Lx.isPart)) 0 i) (by simp[results,results101,go_sem,d0,d1,d2,d3,Cv]) rfl ⟨rfl,((a3.past a4).below' a5 (Nat.le_of_lt a0.lt)).set4 (AD _) _ _ _ _⟩
def Jj(acc:Nat)(t:AQ):Nat:=t.foldl (λ n c=>n*10+(c.toNat - 48)) acc
theorem Un:∀(t:AQ) (acc:Nat),acc<=Jj acc t
 | [],acc=>AD _
 | c :: r,acc=>by
  have h:=Un r (acc*10+(c.toNat - 48));show acc<=Jj (acc*10+(c.toNat - 48)) r;omega
theorem Hh:∀(t:AQ) (acc:Nat),(∀c∈t,Lx.isDigit c=true)->acc<=18446744073709551615 ->
  Lib.parseUintM 18446744073709551615 acc t=if Jj acc t<=18446744073709551615 then .ok (Jj acc t) else .range
 | [],acc,_,h=>by
  have hv:Jj acc []=acc:=rfl;rw[hv,if_pos h];rfl
 | c :: r,acc,hd,h=>by
  have hc:=hd c (by simp);simp[Lx.isDigit,UInt8.le_iff_toNat_le] at hc;have a0:=Un r (acc*10+(c.toNat - 48));have hv:Jj acc (c :: r)=Jj (acc*10+(c.toNat - 48)) r:=rfl;rw[hv,Lib.parseUintM,if_pos hc];by_cases h1:1844674407370955162<=acc
  .rw[if_pos h1,if_neg (by omega)]
  .rw[if_neg h1];by_cases h2:18446744073709551615<acc*10+(c.toNat - 48)
   .rw[if_pos h2,if_neg (by omega)]
   .rw[if_neg h2];exact Hh r _ (λ x hx=>hd x (by simp[hx])) (by omega)
theorem Me(t:AQ)(a0:t≠[])(hd:∀c∈t,Lx.isDigit c=true):Lib.parseIntB 64 t=if Lx.value t<=9223372036854775807 then .ok (Lx.value t:Int) else .range:=by
 match t,a0,hd with
 | c :: r,_,hd=>
  have hc:=hd c (by simp);simp[Lx.isDigit,UInt8.le_iff_toNat_le] at hc;rw[Lib.parseIntB_plain 64 c r (by omega) (by omega)];have hu:Lib.parseUintB 64 (c :: r)=if Jj 0 (c :: r)<=18446744073709551615 then .ok (Jj 0 (c :: r)) else .range:=by
   unfold Lib.parseUintB;rw[if_neg (by simp)];exact Hh (c :: r) 0 hd (by omega)
  rw[hu];have hv:Lx.value (c :: r)=Jj 0 (c :: r):=rfl;rw[hv];by_cases h1:Jj 0 (c :: r)<=18446744073709551615
  .rw[if_pos h1];simp only[Lib.signlessC];by_cases h2:Jj 0 (c :: r)<=9223372036854775807
   .rw[if_pos h2,if_neg (by show ¬9223372036854775808<=_;omega)]
   .rw[if_neg h2,if_pos (by show 9223372036854775808<=_;omega)]
  .rw[if_neg h1,if_neg (by omega)];rfl
def Env(w:World):Prop:=∃tp p,w.cell? ⟨2,0,none⟩=some (.iface tp p)
theorem Env.lt(h:Env w):2<w.heap.size:=by
 obtain⟨tp,p,h⟩:=h;exact Lib.lt_of_cell h
theorem Env.below{B:Nat}(h:Env w)(m:Below B w w')(hB:2<B):Env w':=by
 obtain⟨tp,p,h⟩:=h;exact⟨tp,p,(m.cell (p:=⟨2,0,none⟩) hB).trans h⟩
theorem Env.mv(h:Env w)(m:Mv b j w w')(hb:2≠b):Env w':=by
 have hl:=h.lt;obtain⟨tp,p,h⟩:=h;exact⟨tp,p,(World.cell?_of_block (w:=w) (m.kept hl hb)).trans h⟩
theorem Pq(t:ByteArray)(w:World)(hn:t.size<=16384)(a0:t.size≠0)(hd:∀c∈t.data.toList,Lx.isDigit c=true)(hv:Lx.value t.data.toList<=9223372036854775807) :
  AA 131 #[.string t,iv 10,iv 64] w λ e w'=>e=.returned (.tuple #[iv (Lx.value t.data.toList:Nat),.nilIface])/\Below w.heap.size w w':=by
 refine (Tryz.strconv_ParseInt_10_at64_ok t (by omega) (Lx.value t.data.toList:Nat) (by rw[Me _ (by intro e;apply a0;have:=congrArg List.length e;simpa using this) hd,if_pos hv]) w).mono ?_;rintro e w' ⟨rfl,hw⟩;refine⟨rfl,?_⟩;rcases hw with rfl | ⟨t',rfl⟩
 .exact AF _ _
 .exact Lib.bytesWorld_below _ _ _
theorem Mf(t:ByteArray)(w:World)(a0:Env w)(hn:t.size<=16384)(a3:t.size≠0)(hd:∀c∈t.data.toList,Lx.isDigit c=true)(hv:¬Lx.value t.data.toList<=9223372036854775807) :
  AA 131 #[.string t,iv 10,iv 64] w λ e w'=>∃x N,e=.returned (.tuple #[iv x,.iface 193 (pt N 0)])/\Below w.heap.size w w':=by
 obtain⟨tp,p,hc⟩:=a0;refine (Tryz.strconv_ParseInt_10_at64_range t (by omega) (by rw[Me _ (by intro e;apply a3;have:=congrArg List.length e;simpa using this) hd,if_neg hv]) _ w hc (AJ ⟨_,_,rfl⟩)).mono ?_;rintro e w' ⟨N,rfl,_,_,hb⟩;exact⟨_,N,rfl,hb⟩
theorem Uo{p:UInt8->Bool}(h:i<s.size)(hp:p s[i]=true):1<=run s i p:=by
 have e:s.data.toList.drop i=s[i] :: s.data.toList.drop (i+1):=by
  rw[drop_eq_getElem_cons (by simpa using h)];congr 1
 unfold run;rw[e,takeWhile_cons_of_pos hp];simp
theorem El(s:ByteArray)(i:Nat)(p:UInt8->Bool):(s.extract i (i+run s i p)).data.toList=(s.data.toList.drop i).takeWhile p:=by
 rw[ext_list,<-Lx.tw_take (p:=p) (s.data.toList.drop i),take_drop];rfl
theorem Lv(b:Nat)(s:ByteArray)(i:Nat)(w:World)(h:At b s i w)(hs:s.size<=16384)(hi:i<s.size)(a4:s[i]=48)(hn:1<run s i Lx.isDigit) :
  AA 103 #[pt b 0] w λ e w'=>e=.panicked (Cu i 30)/\∃j,Mv b j w w':=by
 have a7:s.size<=maxLen:=by unfold maxLen;omega
 obtain⟨c0,c1,c2,c3⟩:=h;have h:At b s i w:=⟨c0,c1,c2,c3⟩;have a8:=Fe s i Lx.isDigit (by omega);have a9:(s.extract i (i+run s i Lx.isDigit)).size=run s i Lx.isDigit:=by rw[ext_size a8];omega
 have a0:((s.extract i (i+run s i Lx.isDigit))[0]'(by omega))=48:=by rw[ByteArray.getElem_extract];exact a4
 have a3:Below w.heap.size w (w.alloc Ce):=(AF _ _).alloc (AD _) _;have a5:=h.below a3 c3;go_enter func103,ntmps103;go_wp2_with (first
  |(go_at_call 96;refine (take_mv b s i _ _ _ a5 a7 (by omega) J1 J2).mono ?_;rintro e w1 ⟨rfl,a6⟩)
  |(go_at_call 67;refine (giveUp_any i 30 _).mono ?_;rintro e w2 ⟨rfl,rfl⟩))
 exact⟨rfl,rfl,_,a6.past a3⟩
theorem Pt(b:Nat)(s:ByteArray)(i:Nat)(w:World)(h:At b s i w)(a6:Env w)(ag:2≠b)(hs:s.size<=16384)(hi:i<s.size)(aa:Lx.isDigit s[i]=true)(a9:¬(s[i]=48/\1<run s i Lx.isDigit))
  (hv:¬Lx.value ((s.data.toList.drop i).takeWhile Lx.isDigit)<=9223372036854775807) :
  AA 103 #[pt b 0] w λ e w'=>e=.panicked (Cu i 3)/\∃j,Mv b j w w':=by
 have af:s.size<=maxLen:=by unfold maxLen;omega
 obtain⟨c0,c1,c2,c3⟩:=h;have h:At b s i w:=⟨c0,c1,c2,c3⟩;have ah:=Uo hi aa;have ai:=Fe s i Lx.isDigit (by omega);have a7:(s.extract i (i+run s i Lx.isDigit)).size=run s i Lx.isDigit:=by rw[ext_size ai];omega
 have a8:Below w.heap.size w (w.alloc Ce):=(AF _ _).alloc (AD _) _;have ae:=h.below a8 c3;have ad:=a6.below a8 a6.lt;have a5:Aside (∀c∈(s.extract i (i+run s i Lx.isDigit)).data.toList,Lx.isDigit c=true):=by
  show ∀c∈_,_;rw[El];exact Lx.tw_mem
 have a3:Aside (¬Lx.value (s.extract i (i+run s i Lx.isDigit)).data.toList<=9223372036854775807):=by
  show ¬_;rw[El];exact hv
 have a0:Aside ((s.extract i (i+run s i Lx.isDigit))[0]'(by omega)=s[i]):=by show _=_;rw[ByteArray.getElem_extract];simp
 clear hv;by_cases hf:s[i]=48
 .have hx:((s.extract i (i+run s i Lx.isDigit))[0]'(by omega))=48:=by rw[a0.out];exact hf
  have hn:run s i Lx.isDigit<=1:=Nat.le_of_not_lt λ a=>a9 ⟨hf,a⟩
  clear a9;go_enter func103,ntmps103;go_wp2_with (first
   |(go_at_call 96;refine (take_mv b s i _ _ _ ae af (by omega) J1 J2).mono ?_;rintro e w1 ⟨rfl,a4⟩)
   |(go_at_call 131;refine (Mf _ _ (ad.mv a4 ag) (by rw[a7];omega) (by rw[a7];omega) a5.out a3.out).mono ?_;rintro e w2 ⟨xx,N,rfl,ab⟩)
   |(go_at_call 67;refine (giveUp_any i 3 _).mono ?_;rintro e w3 ⟨rfl,rfl⟩))
  exact⟨rfl,rfl,_,(a4.past a8).below ab⟩
 .have hx:¬(((s.extract i (i+run s i Lx.isDigit))[0]'(by omega)).toNat:Int)=48:=by
   rw[a0.out];intro a;exact hf (UInt8.toNat_inj.1 (by show s[i].toNat=48;omega))
  clear a9;go_enter func103,ntmps103;go_wp2_with (first
   |(go_at_call 96;refine (take_mv b s i _ _ _ ae af (by omega) J1 J2).mono ?_;rintro e w1 ⟨rfl,a4⟩)
   |(go_at_call 131;refine (Mf _ _ (ad.mv a4 ag) (by rw[a7];omega) (by rw[a7];omega) a5.out a3.out).mono ?_;rintro e w2 ⟨xx,N,rfl,ab⟩)
   |(go_at_call 67;refine (giveUp_any i 3 _).mono ?_;rintro e w3 ⟨rfl,rfl⟩))
  exact⟨rfl,rfl,_,(a4.past a8).below ab⟩
theorem Wd(b:Nat)(s:ByteArray)(i:Nat)(w:World)(h:At b s i w)(hs:s.size<=16384)(hi:i<s.size)(ae:Lx.isDigit s[i]=true)(ad:¬(s[i]=48/\1<run s i Lx.isDigit))
  (hv:Lx.value ((s.data.toList.drop i).takeWhile Lx.isDigit)<=9223372036854775807) :
  AA 103 #[pt b 0] w λ e w'=>e=.returned (Cv 2 (s.extract i (i+run s i Lx.isDigit)) (Lx.value (s.extract i (i+run s i Lx.isDigit)).data.toList) i)/\Mv b (i+run s i Lx.isDigit) w w':=by
 have ah:s.size<=maxLen:=by unfold maxLen;omega
 obtain⟨c0,c1,c2,c3⟩:=h;have h:At b s i w:=⟨c0,c1,c2,c3⟩;have ai:=Uo hi ae;have aj:=Fe s i Lx.isDigit (by omega);have a4:(s.extract i (i+run s i Lx.isDigit)).size=run s i Lx.isDigit:=by rw[ext_size aj];omega
 have af:Below w.heap.size w (w.alloc Ce):=(AF _ _).alloc (AD _) _;have ag:=h.below af c3;have a9:Aside (∀c∈(s.extract i (i+run s i Lx.isDigit)).data.toList,Lx.isDigit c=true):=by
  show ∀c∈_,_;rw[El];exact Lx.tw_mem
 have a5:Aside ( Lx.value (s.extract i (i+run s i Lx.isDigit)).data.toList<=9223372036854775807):=by
  show _<=_;rw[El];exact hv
 have a0:Aside ((s.extract i (i+run s i Lx.isDigit))[0]'(by omega)=s[i]):=by show _=_;rw[ByteArray.getElem_extract];simp
 clear hv;by_cases hf:s[i]=48
 .have hx:((s.extract i (i+run s i Lx.isDigit))[0]'(by omega))=48:=by rw[a0.out];exact hf
  have hn:run s i Lx.isDigit<=1:=Nat.le_of_not_lt λ a=>ad ⟨hf,a⟩
  clear ad;go_enter func103,ntmps103;go_wp2_with (first
   |(go_at_call 96;refine (take_mv b s i _ _ _ ag ah (by omega) J1 J2).mono ?_;rintro e w1 ⟨rfl,a6⟩)
   |(go_at_call 131;refine (Pq _ _ (by rw[a4];omega) (by rw[a4];omega) a9.out a5.out).mono ?_;rintro e w2 ⟨rfl,a8⟩))
  refine (F4 _ _ (by rw[a4];omega)).mono ?_;rintro e w3 ⟨rfl,aa⟩;have a7:=(C3.new w).mv a6 (by omega);have a3:=a7.below a8 a7.lt;have ab:=a3.below aa a3.lt;obtain⟨x0,x1,x2,x3,d0,d1,d2,d3,f0,f1,f2,f3⟩:=ab.cells;go_wp2;exact bodyPost_ret (v:=Cv 2 (s.extract i (i+run s i Lx.isDigit)) (Lx.value (s.extract i (i+run s i Lx.isDigit)).data.toList) i) (by simp[results,results103,go_sem,d0,d1,d2,d3,Cv]) rfl ⟨rfl,(((a6.past af).below a8).below' aa (Nat.le_of_lt a3.lt)).set4 (AD _) _ _ _ _⟩
 .have hx:¬(((s.extract i (i+run s i Lx.isDigit))[0]'(by omega)).toNat:Int)=48:=by
   rw[a0.out];intro a;exact hf (UInt8.toNat_inj.1 (by show s[i].toNat=48;omega))
  clear ad;go_enter func103,ntmps103;go_wp2_with (first
   |(go_at_call 96;refine (take_mv b s i _ _ _ ag ah (by omega) J1 J2).mono ?_;rintro e w1 ⟨rfl,a6⟩)
   |(go_at_call 131;refine (Pq _ _ (by rw[a4];omega) (by rw[a4];omega) a9.out a5.out).mono ?_;rintro e w2 ⟨rfl,a8⟩))
  refine (F4 _ _ (by rw[a4];omega)).mono ?_;rintro e w3 ⟨rfl,aa⟩;have a7:=(C3.new w).mv a6 (by omega);have a3:=a7.below a8 a7.lt;have ab:=a3.below aa a3.lt;obtain⟨x0,x1,x2,x3,d0,d1,d2,d3,f0,f1,f2,f3⟩:=ab.cells;go_wp2;exact bodyPost_ret (v:=Cv 2 (s.extract i (i+run s i Lx.isDigit)) (Lx.value (s.extract i (i+run s i Lx.isDigit)).data.toList) i) (by simp[results,results103,go_sem,d0,d1,d2,d3,Cv]) rfl ⟨rfl,(((a6.past af).below a8).below' aa (Nat.le_of_lt a3.lt)).set4 (AD _) _ _ _ _⟩
def dotC:Bool:=true
theorem Mg:∀(l:AQ) (c:UInt8),(0<=Lib.indexByte l c)↔l.contains c=true
 | [],c=>by simp[Lib.indexByte]
 | a :: r,c=>by
  have ih:=Mg r c;have hg:=Lib.indexByte_ge r c;simp only[Lib.indexByte,contains_cons,Bool.or_eq_true,beq_iff_eq];by_cases h:a=c
  .simp[h]
  .have h':¬c=a:=λ e=>h e.symm
   simp only[h,h',false_or,if_false];rw[<-ih];split <;> omega
theorem Hi(s:ByteArray)(hs:2<=s.size):(s.extract 0 2).toList=[s[0],s[1]]:=by
 rw[ByteArray.toList_eq,ext_list];obtain⟨a,b,r,e⟩:∃a b r,s.data.toList=a :: b :: r:=by
  rcases h:s.data.toList with _ | ⟨a,_ | ⟨b,r⟩⟩
  .have h2:s.data.toList.length=0:=by rw[h];rfl
   have h3:s.data.toList.length=s.size:=by simp
   omega
  .have h2:s.data.toList.length=1:=by rw[h];rfl
   have h3:s.data.toList.length=s.size:=by simp
   omega
  .exact⟨a,b,r,rfl⟩
 have e0:s[0]=a:=by
  have:s.data.toList[0]'(by rw[e];simp)=a:=by simp[e]
  exact this
 have e1:s[1]=b:=by
  have:s.data.toList[1]'(by rw[e];simp)=b:=by simp[e]
  exact this
 rw[e0,e1,e];rfl
theorem J3(s:ByteArray)(hs:2<=s.size):∃r,s.data.toList=s[0] :: s[1] :: r:=by
 have h:=Hi s hs;rw[ByteArray.toList_eq,ext_list] at h;refine⟨s.data.toList.drop 2,?_⟩;have h2:=take_append_drop 2 s.data.toList;simp at h;rw[h] at h2;exact h2.symm
theorem Yf(s:ByteArray)(hs:1<=s.size):∃r,s.data.toList=s[0] :: r:=by
 refine⟨s.data.toList.tail,?_⟩;have e:=drop_eq_getElem_cons (l:=s.data.toList) (i:=0) (by simp;omega);simp at e;exact e
theorem N3(s:ByteArray)(w:World)(hs:2<=s.size)(hm:s.size<=16384)(h:Lx.two s.data.toList=true) :
  AA 135 #[.string s] w λ e w'=>e=.returned (iv 2)/\w'=w:=by
 have hl:=Hi s hs;obtain⟨r,hr⟩:=J3 s hs;rw[hr] at h;clear hr;simp only[Lx.two,Bool.or_eq_true,Bool.and_eq_true,beq_iff_eq] at h;rcases h with (⟨h1,((h0 | h0) | h0) | h0⟩ | ⟨h0,h1⟩) | ⟨h0,h1⟩
 all_goals
  rw[h0,h1] at hl;clear h0 h1;go_enter func135,ntmps135;go_wp2;go_ret;exact⟨rfl,rfl⟩
theorem B3{a b x y:UInt8}(h:¬(a=x/\b=y)):([a,b] == [x,y])=false:=by
 rw[beq_eq_false_iff_ne];intro e;simp at e;exact h e
theorem N4(s:ByteArray)(w:World)(hs:1<=s.size)(hm:s.size<=16384)(h:Lx.two s.data.toList=false) :
  AA 135 #[.string s] w λ e w'=>e=.returned (iv (if Lx.one dotC s[0] then 1 else 0))/\w'=w:=by
 have a3:∀w1:World,AA 160 #[.string ⟨(Lx.ones dotC).toArray⟩,.int .u8 s[0].toNat] w1 λ e w'=>e=.returned (iv (Lib.indexByte (Lx.ones dotC) s[0]))/\w'=w1:=by
  intro w1;refine (Tryz.strings_IndexByte _ _ w1).mono ?_;rintro e w' ⟨rfl,rfl⟩;refine⟨ret_int ?_,rfl⟩;simp
 have a0:=Mg (Lx.ones dotC) s[0];have a5:=Lib.indexByte_ge (Lx.ones dotC) s[0];unfold Lx.one;generalize Lib.indexByte (Lx.ones dotC) s[0]=ix at *;by_cases hc:(Lx.ones dotC).contains s[0]=true
 .have hp:0<=ix:=a0.2 hc;rw[if_pos hc];clear hc a0;by_cases h2:2<=s.size
  .have hl:=Hi s h2;obtain⟨r,hr⟩:=J3 s h2;rw[hr] at h;clear hr;simp only[Lx.two,Bool.or_eq_false_iff,Bool.and_eq_false_iff,beq_eq_false_iff_ne] at h;have k1:((s.extract 0 2).toList == [61,61])=false:=by rw[hl];apply B3;rintro⟨a,b⟩;simp_all
   have k2:((s.extract 0 2).toList == [33,61])=false:=by rw[hl];apply B3;rintro⟨a,b⟩;simp_all
   have k3:((s.extract 0 2).toList == [60,61])=false:=by rw[hl];apply B3;rintro⟨a,b⟩;simp_all
   have k4:((s.extract 0 2).toList == [62,61])=false:=by rw[hl];apply B3;rintro⟨a,b⟩;simp_all
   have k5:((s.extract 0 2).toList == [38,38])=false:=by rw[hl];apply B3;rintro⟨a,b⟩;simp_all
   have k6:((s.extract 0 2).toList == [124,124])=false:=by rw[hl];apply B3;rintro⟨a,b⟩;simp_all
   clear h hl;go_enter func135,ntmps135;go_wp2_with (go_at_call 160;refine (a3 _).mono ?_;rintro e w' ⟨rfl,rfl⟩);go_ret;exact⟨rfl,rfl⟩
  .have a4:¬1<s.size:=by omega
   go_enter func135,ntmps135;go_wp2_with (go_at_call 160;refine (a3 _).mono ?_;rintro e w' ⟨rfl,rfl⟩);go_ret;exact⟨rfl,rfl⟩
 .have hp:¬0<=ix:=λ a=>hc (a0.1 a)
  rw[if_neg hc];clear hc a0;by_cases h2:2<=s.size
  .have hl:=Hi s h2;obtain⟨r,hr⟩:=J3 s h2;rw[hr] at h;clear hr;simp only[Lx.two,Bool.or_eq_false_iff,Bool.and_eq_false_iff,beq_eq_false_iff_ne] at h;have k1:((s.extract 0 2).toList == [61,61])=false:=by rw[hl];apply B3;rintro⟨a,b⟩;simp_all
   have k2:((s.extract 0 2).toList == [33,61])=false:=by rw[hl];apply B3;rintro⟨a,b⟩;simp_all
   have k3:((s.extract 0 2).toList == [60,61])=false:=by rw[hl];apply B3;rintro⟨a,b⟩;simp_all
   have k4:((s.extract 0 2).toList == [62,61])=false:=by rw[hl];apply B3;rintro⟨a,b⟩;simp_all
   have k5:((s.extract 0 2).toList == [38,38])=false:=by rw[hl];apply B3;rintro⟨a,b⟩;simp_all
   have k6:((s.extract 0 2).toList == [124,124])=false:=by rw[hl];apply B3;rintro⟨a,b⟩;simp_all
   clear h hl;go_enter func135,ntmps135;go_wp2_with (go_at_call 160;refine (a3 _).mono ?_;rintro e w' ⟨rfl,rfl⟩);go_ret;exact⟨rfl,rfl⟩
  .have a4:¬1<s.size:=by omega
   go_enter func135,ntmps135;go_wp2_with (go_at_call 160;refine (a3 _).mono ?_;rintro e w' ⟨rfl,rfl⟩);go_ret;exact⟨rfl,rfl⟩
theorem N5(s:ByteArray)(w:World)(hs:1<=s.size)(hm:s.size<=16384) :
  AA 135 #[.string s] w λ e w'=>e=.returned (iv (Lx.markN dotC s.data.toList:Nat))/\w'=w:=by
 rcases h:Lx.two s.data.toList with _ | _
 .refine (N4 s w hs hm h).mono ?_;rintro e w' ⟨rfl,rfl⟩;refine⟨ret_int ?_,rfl⟩;obtain⟨r,hr⟩:=Yf s hs;unfold Lx.markN;rw[h,hr];simp only[Bool.false_eq_true,if_false];split <;> rfl
 .have h2:2<=s.size:=by
   rcases hl:s.data.toList with _ | ⟨a,_ | ⟨b,r⟩⟩
   .rw[hl] at h;simp[Lx.two] at h
   .rw[hl] at h;simp[Lx.two] at h
   .have h3:s.data.toList.length=s.size:=by simp
    rw[<-h3,hl];simp
  refine (N3 s w h2 hm h).mono ?_;rintro e w' ⟨rfl,rfl⟩;exact⟨ret_int (by unfold Lx.markN;rw[h];rfl),rfl⟩
theorem Up(dot:Bool)(l:AQ):Lx.markN dot l<=l.length:=by
 unfold Lx.markN;rcases l with _ | ⟨a,_ | ⟨b,r⟩⟩
 .simp[Lx.two]
 .simp[Lx.two];split <;> omega
 .split
  .simp
  .simp;split <;> omega
def msize(s:ByteArray)(i:Nat):Nat:=Lx.markN dotC (s.data.toList.drop i)
theorem Yg(s:ByteArray)(i:Nat)(hi:i<=s.size):i+msize s i<=s.size:=by
 have h:=Up dotC (s.data.toList.drop i);simp at h;unfold msize;omega
theorem Iy(s:ByteArray)(i:Nat)(w:World)(hs:s.size<=16384)(hi:i<s.size) :
  AA 135 #[.string (s.extract i s.size)] w λ e w'=>e=.returned (iv (msize s i:Nat))/\w'=w:=by
 have hz:=ext_size (s:=s) (i:=i) (AD _);refine (N5 _ w (by omega) (by omega)).mono ?_;rintro e w' ⟨rfl,rfl⟩;refine⟨ret_int ?_,rfl⟩;rw[ext_list,msize,take_of_length_le (by simp)]
theorem Yh(b:Nat)(s:ByteArray)(i:Nat)(w:World)(h:At b s i w)(hs:s.size<=16384)(hi:i<s.size)(hz:msize s i=0) :
  AA 105 #[pt b 0] w λ e w'=>e=.panicked (Cu i 30)/\∃j,Mv b j w w':=by
 obtain⟨c0,c1,c2,c3⟩:=h;have h:At b s i w:=⟨c0,c1,c2,c3⟩;have a3:Below w.heap.size w (w.alloc Ce):=(AF _ _).alloc (AD _) _;have a0:∀w1:World,AA 135 #[.string (s.extract i s.size)] w1 λ e w'=>e=.returned (iv 0)/\w'=w1:=by
  intro w1;have:=Iy s i w1 hs hi;rw[hz] at this;exact this
 go_enter func105,ntmps105;go_wp2_with (first
  |(go_at_call 135;refine (a0 _).mono ?_;rintro e w1 ⟨rfl,rfl⟩)
  |(go_at_call 67;refine (giveUp_any i 30 _).mono ?_;rintro e w2 ⟨rfl,rfl⟩))
 exact⟨rfl,rfl,_,(Mv.refl h).below' ((AF _ _).alloc (AD _) _) (AD _)⟩
theorem Ag2(b:Nat)(s:ByteArray)(i:Nat)(w:World)(h:At b s i w)(hs:s.size<=16384)(hi:i<s.size)(hz:0<msize s i) :
  AA 105 #[pt b 0] w λ e w'=>e=.returned (Cv 4 (s.extract i (i+msize s i)) 0 i)/\Mv b (i+msize s i) w w':=by
 obtain⟨c0,c1,c2,c3⟩:=h;have h:At b s i w:=⟨c0,c1,c2,c3⟩;have a8:=Yg s i (by omega);have aa:(s.extract i (i+msize s i)).size=msize s i:=by rw[ext_size a8];omega
 have ab:Below w.heap.size w (w.alloc Ce):=(AF _ _).alloc (AD _) _;have a7:∀w1:World,AA 135 #[.string (s.extract i s.size)] w1 λ e w'=>e=.returned (iv (msize s i:Nat))/\w'=w1:=λ w1=>Iy s i w1 hs hi
 have a9:∀w1:World,AA 114 #[.string (s.extract i (i+msize s i))] w1 λ e w'=>e=.returned (.string (s.extract i (i+msize s i)))/\Below w1.heap.size w1 w':=λ w1=>F4 _ w1 (by omega)
 have ad:¬(msize s i:Int)=0:=by omega
 have ae:(i:Int)+(msize s i:Int)<=(s.size:Int):=by omega
 go_enter func105,ntmps105;go_wp2_with (first
  |(go_at_call 135;refine (a7 _).mono ?_;rintro e w1 ⟨rfl,rfl⟩))
 have a4:Mv b (i+msize s i) w ((w.setCell ⟨b,1,none⟩ (iv ((i:Int)+(msize s i:Int)))).alloc Ce):=by
  unfold Mv;rw[show ((i+msize s i:Nat):Int)=(i:Int)+(msize s i:Int) by omega];exact (AF _ _).alloc (by simp[World.setCell]) _
 have a0:C3 w.heap.size ((w.setCell ⟨b,1,none⟩ (iv ((i:Int)+(msize s i:Int)))).alloc Ce):=by
  have:=C3.new (w.setCell ⟨b,1,none⟩ (iv ((i:Int)+(msize s i:Int))));simpa [World.setCell] using this
 have a3:=h.move a4;generalize ((w.setCell ⟨b,1,none⟩ (iv ((i:Int)+(msize s i:Int)))).alloc Ce)=w2 at *;obtain⟨t0,t1,t2,t3⟩:=a3;clear h c0 c1 c2
 go_region_with (go_at_call 114;refine (a9 _).mono ?_;rintro e w3 ⟨rfl,a5⟩;have a6:C3 w.heap.size w3:=C3.below (w:=w2.drew) a0 a5 a0.lt;obtain⟨x0,x1,x2,x3,d0,d1,d2,d3,f0,f1,f2,f3⟩:=a6.cells)
 all_goals
  simp only[Exit.then];refine ‹∀(a:Act) (w:World),_->_› _ _ ?_;go_wp2;exact bodyPost_ret (v:=Cv 4 (s.extract i (i+msize s i)) 0 i) (by simp[results,results105,go_sem,d0,d1,d2,d3,Cv]) rfl ⟨rfl,(a4.below' (below_drewN (AF w2.heap.size w2) 1) (Nat.le_of_lt a0.lt)).below' a5 (Nat.le_of_lt a0.lt) |>.set4 (AD _) _ _ _ _⟩
theorem IsB.lt{B:Nat}{bs:AR}(h:IsB B b bs w):b<w.heap.size:=by
 rcases h with h | h <;> exact h.lt
theorem IsB.below{B:Nat}{bs:AR}(h:IsB B b bs w)(m:Below w.heap.size w w'):IsB B b bs w':=by
 have key:∀p,Lib.BuilderAtF 82 5 B b p bs w->Lib.BuilderAtF 82 5 B b p bs w':=by
  intro p hp;have a3:=hp.lt;obtain⟨hB,v,hb,a0,a4⟩:=hp;exact⟨hB,v,(m.block b a3).trans hb,a0.kept (row:=none) ⟨m.os,m.tape,m.output,m.size,λ k hk _=>m.block k hk⟩ (by cases hv:v.ownBlock <;> simp),a4⟩
 exact h.elim (λ x=>.inl (key _ x)) (λ x=>.inr (key _ x))
theorem IsB.set{B:Nat}{bs:AR}(h:IsB B b bs w){a:Addr}(ha:a.block<B)(u:Value):IsB B b bs (w.setCell a u):=by
 have key:∀p,Lib.BuilderAtF 82 5 B b p bs w->Lib.BuilderAtF 82 5 B b p bs (w.setCell a u):=by
  intro p hp;obtain⟨hB,v,hb,a0,a3⟩:=hp;refine⟨hB,v,(AG _ _ _ _ (by omega)).trans hb,a0.kept (row:=some a.block) ⟨rfl,rfl,rfl,by simp[World.setCell],λ k _ hk=>AG _ _ _ _ (λ e=>hk (by simp[e]))⟩ (AJ ?_),a3⟩;intro e;have:=(a0.lt _ e).1;omega
 exact h.elim (λ x=>.inl (key _ x)) (λ x=>.inr (key _ x))
theorem IsB.mv{B r:Nat}{bs:AR}(h:IsB B b bs w)(m:Mv r j w w')(hr:r<B):IsB B b bs w':=
 (h.set (a:=⟨r,1,none⟩) hr (iv (j:Int))).below (by simpa [Mv,World.setCell] using m)
theorem Eu(h:At b s i w):Mv b (i+1) w (w.setCell ⟨b,1,none⟩ (iv ((i:Int)+1)))/\∃p,Aside (p=i+1)/\At b s p (w.setCell ⟨b,1,none⟩ (iv ((i:Int)+1))):=by
 have a0:Mv b (i+1) w (w.setCell ⟨b,1,none⟩ (iv ((i:Int)+1))):=Mv.of_eq (n:=0) (by rw[show ((i+1:Nat):Int)=(i:Int)+1 by omega];rfl);exact⟨a0,i+1,rfl,h.move a0⟩
theorem Sb(b:Nat)(s:ByteArray)(i:Nat)(w:World)(h:At b s i w)(hs:s.size<=16384)(hi:i+1<s.size)(he:Lx.isEsc s[i+1]=true) :
  AA 133 #[pt b 0] w λ e w'=>e=.returned (.int .u8 s[i+1].toNat)/\Mv b (i+1) w w':=by
 have a7:s.size<=maxLen:=by unfold maxLen;omega
 obtain⟨a5,p,hp,a0⟩:=Eu h;obtain⟨c0,c1,c2,c3⟩:=h;have a4:p<s.size:=by have:=hp.out;omega
 have a6:Aside (Lx.isEsc s[p]=true):=by have e:=hp.out;subst e;exact he
 have a3:Aside (s[i+1]=s[p]):=by have e:=hp.out;subst e;rfl
 go_enter func133,ntmps133;go_wp2_with fail;generalize (w.setCell ⟨b,1,none⟩ (iv ((i:Int)+1)))=w1 at *;obtain⟨t0,t1,t2,t3⟩:=a0;have a0:At b s p w1:=⟨t0,t1,t2,t3⟩;clear c0 c1 c2 he
 go_quiet (first
  |(go_at_call 98;exact Calls.quiet_of (C5 b s p _ (a0.drewN _) a7 a4))
  |(go_at_call 159;refine Calls.quiet_of_same (v:=.bool true) ?_;have:=needs_any s[p];rw[a6.out] at this;exact this _))
 go_wp2_with fail
 go_quiet (fail)
 go_wp2;go_ret;exact⟨by rw[a3.out];rfl,a5.below' (below_drewN (below_drewN (AF _ _) _) _) (AD _)⟩
theorem Pu(b:Nat)(s:ByteArray)(i:Nat)(w:World)(h:At b s i w)(hs:s.size<=16384)(hi:i<s.size)(he:∀h:i+1<s.size,Lx.isEsc s[i+1]=false) :
  AA 133 #[pt b 0] w λ e w'=>e=.panicked (Cu i 30)/\∃j,Mv b j w w':=by
 have a5:s.size<=maxLen:=by unfold maxLen;omega
 obtain⟨a4,p,hp,a0⟩:=Eu h;obtain⟨c0,c1,c2,c3⟩:=h;by_cases hlt:p<s.size
 .have a6:Aside (Lx.isEsc s[p]=false):=by have e:=hp.out;subst e;exact he hlt
  go_enter func133,ntmps133;go_wp2_with fail;generalize (w.setCell ⟨b,1,none⟩ (iv ((i:Int)+1)))=w1 at *;obtain⟨t0,t1,t2,t3⟩:=a0;have a0:At b s p w1:=⟨t0,t1,t2,t3⟩;clear c0 c1 c2 he
  go_quiet (first
   |(go_at_call 98;exact Calls.quiet_of (C5 b s p _ (a0.drewN _) a5 hlt))
   |(go_at_call 159;refine Calls.quiet_of_same (v:=.bool false) ?_;have:=needs_any s[p];rw[a6.out] at this;exact this _))
  go_wp2_with (go_at_call 67;refine (giveUp_any i 30 _).mono ?_;rintro e w2 ⟨rfl,rfl⟩)
  exact⟨rfl,rfl,_,a4.below' (below_drewN (AF _ _) _) (AD _)⟩
 .have a3:p=s.size:=by have:=hp.out;omega
  go_enter func133,ntmps133;go_wp2_with fail;generalize (w.setCell ⟨b,1,none⟩ (iv ((i:Int)+1)))=w1 at *;clear c0 c1 c2 he;have a0:At b s s.size w1:=by rw[<-a3];exact a0
  clear a3
  go_quiet ((go_at_call 98;exact Calls.quiet_of (F3 b s _ (a0.drewN _) a5)))
  go_wp2_with (go_at_call 67;refine (giveUp_any i 30 _).mono ?_;rintro e w2 ⟨rfl,rfl⟩)
  exact⟨rfl,rfl,_,a4.below' (below_drewN (AF _ _) _) (AD _)⟩
theorem A8(c:UInt8)(r:AQ)(o:Nat)(acc:AQ):Lx.quoteR (c :: r) o acc =
  if c=34 then (if acc.length<=256 then Lx.R.ok 3 acc 0 (o+1) else Lx.R.bad 0 3)
  else if c=92 then (match r with | []=>Lx.R.bad o 30 | d :: r'=>if Lx.isEsc d then Lx.quoteR r' (o+2) (acc ++ [d]) else Lx.R.bad o 30)
  else if Lx.isPlain c then Lx.quoteR r (o+1) (acc ++ [c]) else Lx.R.bad o 30:=by
 cases r with
 | nil=>simp only[Lx.quoteR]
 | cons d r=>simp only[Lx.quoteR]
theorem Dk(s:ByteArray)(p:Nat)(h:p<s.size):s.data.toList.drop p=s[p] :: s.data.toList.drop (p+1):=by
 rw[drop_eq_getElem_cons (by simpa using h)];congr 1
theorem Ff(s:ByteArray):s.data.toList.drop s.size=[]:=drop_eq_nil_of_le (by simp)
def TokPost(res:Lx.R)(b i:Nat)(w:World)(e:Ending)(w':World):Prop:=
 match res with
 | .inl (k,t,m,n)=>e=.returned (Cv k ⟨t.toArray⟩ m i)/\Mv b (i+n) w w'
 | .inr (off,er)=>e=.panicked (Cu (i+off) er)/\∃j,Mv b j w w'
theorem TokPost.ok{res:Lx.R}{e:Ending}{k:Nat}{t:AQ}{n:Nat}(h:res=Lx.R.ok k t m n)(he:e=.returned (Cv k ⟨t.toArray⟩ m i))(hm:Mv b (i+n) w w'):TokPost res b i w e w':=by
 subst h;exact⟨he,hm⟩
abbrev AT:=@TokPost.ok
theorem TokPost.bad{res:Lx.R}{e:Ending}{o er:Nat}(h:res=Lx.R.bad o er)(he:e=.panicked (Cu (i+o) er))(hm:∃j,Mv b j w w'):TokPost res b i w e w':=by
 subst h;exact⟨he,hm⟩
abbrev AU:=@TokPost.bad
structure Qd(b i:Nat)(s:ByteArray)(w:World)(o:Nat)(acc:AQ)(wr:World):Prop where
 at_:At b s o wr
 slot:C3 w.heap.size wr
 bld:IsB (w.heap.size+1) (w.heap.size+1) (Lib.byteCells acc) wr
 mv:Mv b o w wr
 lo:i<=o
 hi:o<s.size
 len:acc.length<=o - i
theorem Qd.step{o:Nat}{acc:AQ}{wr:World}(h:Qd b i s w o acc wr)(hb:b<w.heap.size)(m:Mv b p wr w1)(hp:o<=p)(a0:p<s.size):Qd b i s w p acc w1:=
 ⟨h.at_.move m,h.slot.mv m (by omega),h.bld.mv m (by omega),h.mv.trans m,by have:=h.lo;omega,a0,by have:=h.len;omega⟩
theorem Qd.write{o:Nat}{acc:AQ}{c:UInt8}{wr:World}(h:Qd b i s w o acc wr)(hb:b<w.heap.size)(hl:acc.length+1<=o - i)
  (hbld:IsB (w.heap.size+1) (w.heap.size+1) (Lib.byteCells acc ++ [.int .u8 c.toNat]) w1) (m:Below (w.heap.size+1) wr w1):Qd b i s w o (acc ++ [c]) w1:=
 ⟨h.at_.below m (by omega),h.slot.below m (by omega),by simpa [Lib.byteCells] using hbld,h.mv.below' m (by omega),h.lo,h.hi,by simp;omega⟩
theorem Sd(b:Nat)(s:ByteArray)(i:Nat)(w:World)(h:At b s i w)(hs:s.size<=16384)(hi:i<s.size) :
  AA 104 #[pt b 0] w λ e w'=>TokPost (Lx.quoteR (s.data.toList.drop (i+1)) 1 []) b i w e w':=by
 have ax:s.size<=maxLen:=by unfold maxLen;omega
 obtain⟨c0,c1,c2,c3⟩:=h;have h:At b s i w:=⟨c0,c1,c2,c3⟩;obtain⟨res,a9⟩:∃res,Aside (res=Lx.quoteR (s.data.toList.drop (i+1)) 1 []):=⟨_,rfl⟩;rw[<-a9.out];go_enter func104,ntmps104;go_wp2_with fail
 go_loopg [] (s.size - i) (λ g wr=>∃o acc,g=s.size - o/\Qd b i s w o acc wr/\Aside (res=Lx.quoteR (s.data.toList.drop (o+1)) (o+1 - i) acc))
 case atStart=>
  have b0:Below w.heap.size w ((w.alloc Ce).alloc (.cells #[.pointer none,sZ] 82)):=((AF _ _).alloc (AD _) _).alloc (by simp) _;have b8:=(C3.new w).below ((AF (w.alloc Ce).heap.size (w.alloc Ce)).alloc (AD _) (.cells #[.pointer none,sZ] 82)) (by simp);refine⟨i,[],rfl,⟨h.below b0 c3,b8,?_,(Mv.refl h).below' b0 (AD _),AD _,hi,by simp⟩,?_⟩
  .refine Gl (AD _) ?_;show ((w.heap.push _).push _)[w.heap.size+1]?=_;rw[Array.getElem?_push,if_pos (by simp)]
  .show _=_;rw[a9.out,Nat.add_sub_cancel_left]
 case round=>
  clear a9 c0 c1 c2 h;obtain⟨o,acc,rfl,hq,hr⟩:=hrel;obtain⟨al,p,hp,af⟩:=Eu hq.at_;obtain⟨t0,t1,t2,t3⟩:=hq.at_;have ho:o<s.size:=hq.hi;go_wp2_with fail;generalize (wr.setCell ⟨b,1,none⟩ (iv ((o:Int)+1)))=w1 at *;clear t0 t1 t2 t3;by_cases hlt:p<s.size
  .have aq:=hp.out;have ae:Qd b i s w p acc w1:=by rw[aq];exact hq.step c3 al (by omega) (by omega)
   have a5:Aside (res=Lx.quoteR (s[p] :: s.data.toList.drop (p+1)) (p - i) acc):=by
    show _=_;have e:=hr.out;rw[<-aq,Dk s p hlt] at e;exact e
   have b9:i<p:=by have:=hq.lo;omega
   have az:Aside (s.size - p<s.size - o):=by show _<_;omega
   have a7:Aside (acc.length+1<=p - i):=by have h1:=hq.len;have h2:=hq.lo;show _<=_;omega
   clear af hr hq al aq hp ho;have af:=ae.at_;obtain⟨t0,t1,t2,t3⟩:=af;refine (C5 b s p _ ae.at_ ax hlt).mono ?_;rintro e w2 ⟨rfl,n2,rfl⟩;go_wp2_with fail
   go_quiet (fail)
   have a0:Qd b i s w p acc ((w1.drewN n2).drewN nq):=ae.step c3 ((Mv.refl ae.at_).below' (below_drewN (below_drewN (AF _ _) _) _) (AD _)) (AD _) hlt;generalize (w1.drewN n2).drewN nq=w3 at *;clear ae t0 t1 t2 t3;by_cases h34:s[p]=34
   .obtain⟨a4,p1,a8,b6⟩:=Eu a0.at_;obtain⟨t0,t1,t2,t3⟩:=a0.at_;have ai:=Af9 (w.heap.size+1) (w.heap.size+1) (Lib.byteCells acc);have b5:(Lib.byteCells acc).length=acc.length:=by simp[Lib.byteCells]
    rw[b5] at ai;have aa:=a0.bld.mv a4 (by omega);have am:=a0.slot.mv a4 (by omega);have ah:=a0.mv.trans a4;by_cases h256:acc.length<=256
    .have a6:Aside (res=Lx.R.ok 3 acc 0 (p - i+1)):=by
      show _=_;rw[a5.out,A8,if_pos h34,if_pos h256]
     clear a5;go_wp2_with fail;generalize (w3.setCell ⟨b,1,none⟩ (iv ((p:Int)+1)))=w4 at *;have b7:=Jz (w.heap.size+1) (w.heap.size+1) acc w4 aa (by have:=aa.lt;omega);have ar:=ai w4 aa;go_wp2_with (first
      |(go_at_call 64;refine ar.mono ?_;rintro e w5 ⟨rfl,rfl⟩)
      |(go_at_call 37;refine b7.mono ?_;rintro e w6 ⟨rfl,ay⟩;have b4:=am.below ay (by omega);obtain⟨x0,x1,x2,x3,d0,d1,d2,d3,f0,f1,f2,f3⟩:=b4.cells))
     refine bodyPost_ret (v:=Cv 3 ⟨acc.toArray⟩ 0 i) (by simp[results,results104,go_sem,d0,d1,d2,d3,Cv]) rfl (AT a6.out rfl ?_);rw[show i+(p - i+1)=p+1 by omega];exact (ah.below' ay (by omega)).set4 (AD _) _ _ _ _
    .have a6:Aside (res=Lx.R.bad 0 3):=by
      show _=_;rw[a5.out,A8,if_pos h34,if_neg h256]
     clear a5;go_wp2_with fail;generalize (w3.setCell ⟨b,1,none⟩ (iv ((p:Int)+1)))=w4 at *;have ar:=ai w4 aa;go_wp2_with (first
      |(go_at_call 64;refine ar.mono ?_;rintro e w5 ⟨rfl,rfl⟩)
      |(go_at_call 67;refine (giveUp_any i 3 _).mono ?_;rintro e w5 ⟨rfl,rfl⟩))
     exact⟨rfl,AU a6.out rfl ⟨_,ah⟩⟩
   .by_cases h92:s[p]=92
    .by_cases a3:∃h:p+1<s.size,Lx.isEsc s[p+1]=true
     .obtain⟨a8,a3⟩:=a3;have a6:Aside (res=Lx.quoteR (s.data.toList.drop (p+1+1)) (p+1+1 - i) (acc ++ [s[p+1]])):=by
       show _=_;rw[a5.out,A8,if_neg h34,if_pos h92,Dk s (p+1) a8];simp only[a3,if_true];rw[show p - i+2=p+1+1 - i by omega]
      have av:=Sb b s p w3 a0.at_ hs a8 a3;have ak:∀w4,Mv b (p+1) w3 w4->AA 132 #[pt (w.heap.size+1) 0,.int .u8 s[p+1].toNat] w4 λ e w'=>e=.returned .nilIface/\(IsB (w.heap.size+1) (w.heap.size+1) (Lib.byteCells acc ++ [.int .u8 s[p+1].toNat]) w'/\Below (w.heap.size+1) w4 w'):=by
       intro w4 a4;have aa:=(a0.step c3 a4 (by omega) a8).bld;exact Eg (w.heap.size+1) (w.heap.size+1) (Lib.byteCells acc) s[p+1].toNat w4 aa (by have h1:=a7.out;simp[Lib.byteCells];omega) (by have:=aa.lt;omega)
      have au:∀w4 w5,Mv b (p+1) w3 w4->IsB (w.heap.size+1) (w.heap.size+1) (Lib.byteCells acc ++ [.int .u8 s[p+1].toNat]) w5->Below (w.heap.size+1) w4 w5->Qd b i s w (p+1) (acc ++ [s[p+1]]) w5:=by
       intro w4 w5 a4 ag ab;exact (a0.step c3 a4 (by omega) a8).write c3 (by have h1:=a7.out;omega) ag ab
      generalize s[p+1]=d at *;clear a5 a3;go_wp2_with (first
       |(go_at_call 133;refine av.mono ?_;rintro e w4 ⟨rfl,a4⟩)
       |(go_at_call 132;refine (ak _ a4).mono ?_;rintro e w5 ⟨rfl,ag,ab⟩))
      go_roundg (s.size - (p+1))
      case measure=>have h1:=az.out;omega
      case rel=>exact⟨p+1,acc ++ [d],rfl,au _ _ a4 ag ab,a6.out⟩
     .have aj:∀h:p+1<s.size,Lx.isEsc s[p+1]=false:=by
       intro h;rcases hx:Lx.isEsc s[p+1] with _ | _
       .rfl
       .exact absurd ⟨h,hx⟩ a3
      have a6:Aside (res=Lx.R.bad (p - i) 30):=by
       show _=_;rw[a5.out,A8,if_neg h34,if_pos h92];by_cases a8:p+1<s.size
       .rw[Dk s (p+1) a8];simp only[aj a8,Bool.false_eq_true,if_false]
       .rw[show p+1=s.size by omega,Ff]
      have av:=Pu b s p w3 a0.at_ hs hlt aj;clear a5 aj a3;go_wp2_with (go_at_call 133;refine av.mono ?_;rintro e w4 ⟨rfl,j4,a4⟩);exact⟨rfl,AU a6.out (by rw[Nat.add_sub_of_le (by omega)]) ⟨_,a0.mv.trans a4⟩⟩
    .have ba:¬(s[p].toNat:Int)=34:=λ a=>h34 (UInt8.toNat_inj.1 (by show s[p].toNat=34;omega))
     have bb:¬(s[p].toNat:Int)=92:=λ a=>h92 (UInt8.toNat_inj.1 (by show s[p].toNat=92;omega))
     rcases hpl:Lx.isPlain s[p] with _ | _
     .have a6:Aside (res=Lx.R.bad (p - i) 30):=by
       show _=_;rw[a5.out,A8,if_neg h34,if_neg h92,hpl,if_neg (by simp)]
      obtain⟨t0,t1,t2,t3⟩:=a0.at_;clear a5;go_wp2_with (first
       |(go_at_call 134;refine (Fd _ _).mono ?_;rw[hpl];rintro e w4 ⟨rfl,rfl⟩)
       |(go_at_call 67;refine (giveUp_any p 30 _).mono ?_;rintro e w5 ⟨rfl,rfl⟩))
      exact⟨rfl,AU a6.out (by rw[Nat.add_sub_of_le (by omega)]) ⟨_,a0.mv⟩⟩
     .have a6:Aside (res=Lx.quoteR (s.data.toList.drop (p+1)) (p+1 - i) (acc ++ [s[p]])):=by
       show _=_;rw[a5.out,A8,if_neg h34,if_neg h92,hpl,if_pos rfl,show p - i+1=p+1 - i by omega]
      have ak:=Eg (w.heap.size+1) (w.heap.size+1) (Lib.byteCells acc) s[p].toNat w3 a0.bld (by have h1:=a7.out;simp[Lib.byteCells];omega) (by have:=a0.bld.lt;omega);clear a5;go_wp2_with (first
       |(go_at_call 134;refine (Fd _ _).mono ?_;rw[hpl];rintro e w4 ⟨rfl,rfl⟩)
       |(go_at_call 132;refine ak.mono ?_;rintro e w5 ⟨rfl,ag,ab⟩))
      go_roundg (s.size - p)
      case measure=>exact az.out
      case rel=>exact⟨p,acc ++ [s[p]],rfl,a0.write c3 a7.out ag ab,a6.out⟩
  .have ad:p=s.size:=by have:=hp.out;have:=hq.hi;omega
   have aw:At b s s.size w1:=by rw[<-ad];exact af
   have b3:Aside (res=Lx.R.bad 0 30):=by
    show _=_;rw[hr.out,show o+1=s.size by have:=hp.out;omega,Ff];rfl
   clear af ad hlt hr;refine (F3 b s _ aw ax).mono ?_;rintro e w2 ⟨rfl,n2,rfl⟩;go_wp2_with (go_at_call 67;refine (giveUp_any i 30 _).mono ?_;rintro e w3 ⟨rfl,rfl⟩);exact⟨rfl,AU b3.out rfl ⟨_,(hq.mv.trans al).below' (below_drewN (AF _ _) _) (AD _)⟩⟩
end
end Go.Proofs.YtpckmjfabiallaaGreatDoor
