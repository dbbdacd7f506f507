/- Texts of ours, joined. -/
import Derived.Test.YtpckmjfabiallaaGreatDoorH03
import Derived.Deep.DrawnRows
import Derived.Deep.MidRow
set_option linter.unusedVariables false
set_option linter.unusedSimpArgs false
set_option maxRecDepth 100000
set_option maxHeartbeats 16000000
namespace Go.Proofs.YtpckmjfabiallaaGreatDoor
variable{T:TypeId}{a:Act}{b f g i mb p sz:Nat}{cs:List Value}{sl v y0 y1 y2 y3 y4 y5:Value}{w w' w1:World}{x:List UInt8}
open List
open Tryz
section
open Go.RowKit
open Ck (CE CS CF CP Mng Env)
abbrev strV(x:AQ):Value:=.string ⟨x.toArray⟩
theorem Aj8(x n:AQ):((⟨x.toArray⟩:ByteArray) == ⟨n.toArray⟩)=decide (x=n):=by
 show (x.toArray == n.toArray)=decide (x=n);rw[Bool.eq_iff_iff];simp
def fnd:Ck.Env->List UInt8->Nat->Option (Nat × Mng)
 | [],_,_=>none
 |(n,m) :: r,x,i=>if n=x then some (i,m) else fnd r x (i+1)
theorem Re:∀(env:Ck.Env) (x:AQ) (i:Nat),Ck.look env x=((fnd env x i).map (·.2)).getD .no
 | [],x,i=>rfl
 |(n,m) :: r,x,i=>by
  rw[Ck.look,fnd];split
  .rfl
  .exact Re r x (i+1)
theorem Jd(x:AQ):∀(env:Ck.Env) (es:List MapEntry) (i:Nat),es.map (λ e=>(e.key,e.val))=env.map (λ y=>(strV y.1,G3 y.2))->Instr.findNow .string (strV x) es i=some ((fnd env x i).map λ p=>(p.1,G3 p.2))
 | [],es,i,h=>by
  have:es=[]:=by simpa using h
  subst this;rfl
 |(n,m) :: r,[],i,h=>by simp at h
 |(n,m) :: r,e :: es,i,h=>by
  simp only[map_cons,List.cons.injEq,Prod.mk.injEq] at h;obtain⟨⟨h1,h2⟩,h3⟩:=h;rw[Instr.findNow,h1];simp only[Instr.sameNow,Aj8];rw[fnd];by_cases hx:x=n
  .rw[decide_eq_true hx,if_pos hx.symm,h2];rfl
  .rw[decide_eq_false hx,if_neg (λ e=>hx e.symm)];exact Jd x r es (i+1) h3
theorem O3:prog.underlying 60=some (.map 9 125):=by kernel_rfl
theorem Vo:prog.underlying 9=some .string:=by kernel_rfl
theorem Ac0(w:World):(zeroValue 125).run prog w=.ok (G3 .no) w:=by kernel_rfl
theorem Ft{env:Ck.Env}{es:List MapEntry}(h:es.map (λ e=>(e.key,e.val))=env.map (λ y=>(strV y.1,G3 y.2)))(x:AQ)(w:World):(Instr.findKey 9 (strV x) es).run prog w=.ok ((fnd env x 0).map λ p=>(p.1,G3 p.2)) w:=by
 unfold Instr.findKey;simp only[Sem.run_bind,run_underlying Vo,Result.andThen];rw[Jd x env es 0 h];rfl
theorem Gd(x:AQ)(e:Bool)(w:World):(Instr.checkKey e 10000 9 (strV x)).run prog w=.ok () w:=MapKept.run_checkKey (k:=strV x) Vo (by simp[MapKept.IsKey]) e _
theorem E6{env:Ck.Env}(h:A7 w b env)(x:AQ):(Instr.lookup 60 (.map (some b)) (strV x) false).run prog w=.ok (G3 (Ck.look env x)) w:=by
 obtain⟨es,a0,hb,he⟩:=h;have hf:=Ft he x w;have hl:=Re env x 0;rcases hq:fnd env x 0 with _ | ⟨j,m⟩
 .rw[hq] at hf hl;simp[Instr.lookup,run_underlying O3,MapKept.run_getObj_map hb,Gd,hf,Ac0,Result.andThen,hl];exact⟨rfl,rfl,rfl⟩
 .rw[hq] at hf hl;simp[Instr.lookup,run_underlying O3,MapKept.run_getObj_map hb,Gd,hf,Result.andThen,hl]
def Do(env:Ck.Env):Prop:=∀x∈env,x.2.kind≠0
theorem fnd_none:∀(env:Ck.Env) (x:AQ) (i:Nat),Do env->(Ck.look env x).kind=0->fnd env x i=none
 | [],x,i,_,_=>rfl
 |(n,m) :: r,x,i,h,hk=>by
  rw[Ck.look] at hk;rw[fnd];split
  .rename_i e;rw[if_pos e] at hk;exact absurd hk (h (n,m) (AC ..))
  .rename_i e;rw[if_neg e] at hk;exact fnd_none r x (i+1) (λ y hy=>h y (AH _ hy)) hk
def setB(w:World)(b:Nat)(o:Obj):World:={ w with heap:=w.heap.setIfInBounds b o }
theorem Tq{k:Nat}{o:Obj}(h:k≠b):(setB w b o).heap[k]?=w.heap[k]?:=by
 show (w.heap.setIfInBounds b o)[k]?=_;rw[Array.getElem?_setIfInBounds_ne (by omega)]
theorem Nb{o:Obj}(h:b<w.heap.size):(setB w b o).heap[b]?=some o:=by
 show (w.heap.setIfInBounds b o)[b]?=_;rw[Array.getElem?_setIfInBounds_self_of_lt h]
theorem Xk{o:Obj}:(setB w b o).heap.size=w.heap.size:=by
 show (w.heap.setIfInBounds b o).size=_;simp
theorem Tr{env:Ck.Env}(h:A7 w b env)(x:AQ)(m:Mng)(a3:fnd env x 0=none):∃o,(Instr.mapUpdate 60 (.map (some b)) (strV x) (G3 m)).run prog w=.ok () (setB w b o)/\A7 (setB w b o) b (env ++ [(x,m)]):=by
 obtain⟨es,a0,hb,he⟩:=h;have hf:=Ft he x w;rw[a3] at hf;refine⟨.map (es.push { key:=strV x,val:=G3 m,born:=a0 }) (a0+1),?_,_,_,Nb (AB hb).1,?_⟩
 .simp[Instr.mapUpdate,run_underlying O3,MapKept.run_getObj_map hb,Gd,hf,MapKept.run_setObj_map _ hb,Result.andThen,setB]
 .simp[he]
theorem Vp:∀(pre:Ck.Env) (x:AQ) (m:Mng) (post:Ck.Env) (i:Nat),(∀y∈pre,y.1≠x)->fnd (pre ++ (x,m) :: post) x i=some (i+pre.length,m)
 | [],x,m,post,i,_=>by simp[fnd]
 |(n,k) :: r,x,m,post,i,h=>by
  rw[cons_append,fnd,if_neg (h (n,k) (mem_cons_self ..)),Vp r x m post (i+1) (λ y hy=>h y (mem_cons_of_mem _ hy))];simp;omega
theorem Iq{α β:Type}(f:α->β):∀(l:List α) (i:Nat),(l.eraseIdx i).map f=(l.map f).eraseIdx i
 | [],i=>by simp
 | a :: r,0=>by simp
 | a :: r,i+1=>by simp[Iq f r i]
theorem Ts{pre post:Ck.Env}{m:Mng}(h:A7 w b (pre ++ (x,m) :: post))(hp:∀y∈pre,y.1≠x)(ty:TypeId):∃o,(Builtin.delete_ #[60,9] ty #[.map (some b),strV x]).run prog w=.ok (.tuple #[]) (setB w b o)/\A7 (setB w b o) b (pre ++ post):=by
 obtain⟨es,a0,hb,he⟩:=h;have hf:=Ft he x w;rw[Vp pre x m post 0 hp] at hf;have a4:es.size=pre.length+1+post.length:=by
  have:=congrArg List.length he;simp at this;omega
 refine⟨.map (es.eraseIdxIfInBounds (0+pre.length)) a0,?_,_,_,Nb (AB hb).1,?_⟩
 .simp[Builtin.delete_,run_underlying O3,MapKept.run_getObj_map hb,Gd,hf,MapKept.run_setObj_map _ hb,Result.andThen,setB]
 .have a3:(es.eraseIdxIfInBounds (0+pre.length)).toList=es.toList.eraseIdx (0+pre.length):=by
   unfold Array.eraseIdxIfInBounds;rw[dif_pos (by omega)];simp
  have hE:(pre ++ (x,m) :: post).eraseIdx (0+pre.length)=pre ++ post:=by
   rw[Nat.zero_add,eraseIdx_append_of_length_le (Nat.le_refl _)];simp
  rw[a3,Iq,he,<-Iq,hE]
end
section
open Go.RowKit
theorem Cm(s:AQ)(w:World):AA 31 #[strV s] w λ e w'=>e=.returned (iv (Ck.bkind s))/\w'=w:=by
 have e1:(s == [108,101,110])=decide (s=[108,101,110]):=by rw[Bool.eq_iff_iff];simp
 have e2:(s == [104,97,115])=decide (s=[104,97,115]):=by rw[Bool.eq_iff_iff];simp
 have e3:(s == [112,117,115,104])=decide (s=[112,117,115,104]):=by rw[Bool.eq_iff_iff];simp
 have e4:(s == [115,116,114])=decide (s=[115,116,114]):=by rw[Bool.eq_iff_iff];simp
 generalize hk:Ck.bkind s=k;unfold Ck.bkind at hk;by_cases h1:s=[108,101,110]
 .rw[if_pos h1] at hk;rw[decide_eq_true h1] at e1;clear h1 e2 e3 e4;subst hk;go_enter func31,ntmps31;go_wp2;go_ret;exact⟨rfl,rfl⟩
 rw[if_neg h1] at hk;rw[decide_eq_false h1] at e1;by_cases h2:s=[104,97,115]
 .rw[if_pos h2] at hk;rw[decide_eq_true h2] at e2;clear h1 h2 e3 e4;subst hk;go_enter func31,ntmps31;go_wp2;go_ret;exact⟨rfl,rfl⟩
 rw[if_neg h2] at hk;rw[decide_eq_false h2] at e2;by_cases h3:s=[112,117,115,104]
 .rw[if_pos h3] at hk;rw[decide_eq_true h3] at e3;clear h1 h2 h3 e4;subst hk;go_enter func31,ntmps31;go_wp2;go_ret;exact⟨rfl,rfl⟩
 rw[if_neg h3] at hk;rw[decide_eq_false h3] at e3;by_cases h4:s=[115,116,114]
 .rw[if_pos h4] at hk;rw[decide_eq_true h4] at e4;clear h1 h2 h3 h4;subst hk;go_enter func31,ntmps31;go_wp2;go_ret;exact⟨rfl,rfl⟩
 rw[if_neg h4] at hk;rw[decide_eq_false h4] at e4;clear h1 h2 h3 h4;subst hk;go_enter func31,ntmps31;go_wp2;go_ret;exact⟨rfl,rfl⟩
theorem Fu(s:AQ)(w:World):AA 13 #[strV s] w λ e w'=>e=.returned (.bool (Ck.bkind s != 0))/\w'=w:=by
 have hk:=Cm s w;generalize Ck.bkind s=k at *;have e1:((k:Int) != 0)=(k != 0):=by
  by_cases h:k=0
  .subst h;rfl
  .rw[bne_iff_ne.2 h,bne_iff_ne];omega
 go_enter func13,ntmps13;go_wp2_with fail;refine hk.mono ?_;rintro e w1 ⟨rfl,rfl⟩;clear hk;go_wp2;go_ret;exact⟨by rw[<-e1];rfl,rfl⟩
def Af(a e:Nat):List PanicEntry:=[{ v:=.iface 58 (.agg #[iv a,iv e]),recovered:=false }]
theorem Ao(p e:Nat)(w:World):AA 45 #[.bool false,iv p,iv e] w λ r w'=>r=.panicked (Af p e)/\w'=w:=by
 go_enter func45,ntmps45;go_wp2;exact⟨rfl,rfl,rfl⟩
theorem Av(p e:Nat)(w:World):AA 45 #[.bool true,iv p,iv e] w λ r w'=>r=.returned (.tuple #[])/\w'=w:=by
 go_enter func45,ntmps45;go_wp2_with fail;exact bodyPost_end (results_none rfl _ _ _) rfl ⟨rfl,rfl⟩
theorem G4(t:AQ)(ht:t.length<=9223372036854775807)(w:World):AA 170 #[strV t] w λ e w'=>e=.returned (.tuple #[strV (Ck.within t).1,strV (Ck.within t).2.1,.bool (Ck.within t).2.2])/\Below w.heap.size w w':=by
 have hL:=Vv.list_any t ht;have hM:=Vv.map_any t ht;unfold Ck.within;generalize Vv.elT t=a at *;generalize Vv.mpT t=m at *;obtain⟨a1,a2⟩:=a;obtain⟨m1,m2,m3⟩:=m;cases a2
 .simp only[Bool.false_eq_true,if_false];go_enter func170,ntmps170;go_wp2_with fail;refine (hL _).mono ?_;rintro e w1 ⟨rfl,a0⟩;clear hL;go_wp2_with fail;refine (hM _).mono ?_;rintro e w2 ⟨rfl,a3⟩;clear hM;go_wp2
  go_ret3
  exact⟨rfl,a0.trans (a3.mono a0.size)⟩
 .simp only[if_true];go_enter func170,ntmps170;go_wp2_with fail;refine (hL _).mono ?_;rintro e w1 ⟨rfl,a0⟩;clear hL hM;go_wp2
  go_ret3
  exact⟨rfl,a0⟩
theorem Jt(k:Nat)(t:AQ)(ht:t.length<=9223372036854775807)(w:World):AA 218 #[iv k,strV t] w λ e w'=>e=.returned (.tuple #[strV (Ck.sig k t).1,strV (Ck.sig k t).2.1,.bool (Ck.sig k t).2.2])/\Below w.heap.size w w':=by
 have hW:=G4 t ht;have hL:=Vv.list_any t ht;have hM:=Vv.map_any t ht;have e1:(t == [116,101,120,116])=(t == Ck.tText):=rfl;have e2:(t == [105,110,116])=(t == Ck.tInt):=rfl;unfold Ck.sig;generalize Vv.elT t=a at *;generalize Vv.mpT t=m at *;generalize Ck.within t=d at *;by_cases h8:k=8
 .rw[if_pos h8];have q1:((k:Int) == 8)=true:=by simp[h8]
  generalize (t == Ck.tText)=b1 at *;generalize (t == Ck.tInt)=b2 at *;clear h8 hL hM;obtain⟨d1,d2,d3⟩:=d;go_enter func218,ntmps218;go_wp2_with fail;refine (hW _).mono ?_;rintro e w1 ⟨rfl,a0⟩;clear hW;cases d3
  .go_wp2
   go_ret3
   exact⟨by cases b1 <;> rfl,a0⟩
  .go_wp2
   go_ret3
   exact⟨by cases b1 <;> rfl,a0⟩
 rw[if_neg h8];have q1:((k:Int) == 8)=false:=by simp;omega
 by_cases h9:k=9
 .rw[if_pos h9];have q2:((k:Int) == 9)=true:=by simp[h9]
  generalize (t == Ck.tText)=b1 at *;generalize (t == Ck.tInt)=b2 at *;clear h8 h9 hL hW;go_enter func218,ntmps218;go_wp2_with fail;refine (hM _).mono ?_;rintro e w1 ⟨rfl,a0⟩;clear hM;go_wp2
  go_ret3
  exact⟨rfl,a0⟩
 rw[if_neg h9];have q2:((k:Int) == 9)=false:=by simp;omega
 by_cases h10:k=10
 .rw[if_pos h10];have q3:((k:Int) == 10)=true:=by simp[h10]
  generalize (t == Ck.tText)=b1 at *;generalize (t == Ck.tInt)=b2 at *;clear h8 h9 h10 hM hW;go_enter func218,ntmps218;go_wp2_with fail;refine (hL _).mono ?_;rintro e w1 ⟨rfl,a0⟩;clear hL;go_wp2
  go_ret3
  exact⟨rfl,a0⟩
 rw[if_neg h10];have q3:((k:Int) == 10)=false:=by simp;omega
 generalize (t == Ck.tText)=b1 at *;generalize (t == Ck.tInt)=b2 at *;clear h8 h9 h10 hM hW hL;go_enter func218,ntmps218;go_wp2
 go_ret3
 exact⟨rfl,AF _ _⟩
theorem Ac4(o:Nat)(t:AQ)(w:World):AA 219 #[iv o,strV t] w λ e w'=>e=.returned (.tuple #[strV (Ck.operated o t).1,.bool (Ck.operated o t).2])/\w'=w:=by
 have e1:(t == [116,101,120,116])=(t == Ck.tText):=rfl;have e2:(t == [105,110,116])=(t == Ck.tInt):=rfl;have e3:(t == [98,111,111,108])=(t == Ck.tBool):=rfl;unfold Ck.operated;generalize (t == Ck.tText)=b1 at *;generalize (t == Ck.tInt)=b2 at *;generalize (t == Ck.tBool)=b3 at *;have a0:o=1\/o=2\/o=3\/o=4\/o=5\/o=6\/o=7\/o=8\/o=9\/(o≠1/\o≠2/\o≠3/\o≠4/\o≠5/\o≠6/\o≠7/\o≠8/\o≠9):=by omega
 rcases a0 with rfl | rfl | rfl | rfl | rfl | rfl | rfl | rfl | rfl | ⟨h1,h2,h3,h4,h5,h6,h7,h8,h9⟩
 iterate 9 (
  show AA 219 #[iv _,strV t] w _;cases b2 <;> (
  go_enter func219,ntmps219;go_wp2
  go_ret2
  exact⟨by cases b1 <;> rfl,rfl⟩))
 have q1:((o:Int) == 1)=false:=by simp;omega
 have q2:((o:Int) == 2)=false:=by simp;omega
 have q3:((o:Int) == 3)=false:=by simp;omega
 have q4:((o:Int) == 4)=false:=by simp;omega
 have q5:((o:Int) == 5)=false:=by simp;omega
 have q6:((o:Int) == 6)=false:=by simp;omega
 have q7:((o:Int) == 7)=false:=by simp;omega
 have q8:((o:Int) == 8)=false:=by simp;omega
 have q9:((o:Int) == 9)=false:=by simp;omega
 rw[if_neg (by omega),if_neg (by omega),if_neg (by omega),if_neg (by omega)];clear h1 h2 h3 h4 h5 h6 h7 h8 h9;go_enter func219,ntmps219;go_wp2
 go_ret2
 exact⟨rfl,rfl⟩
end
section
open Go.RowKit
open Ck (CE CS CF CP Mng)
theorem Xl{P:Program}{a3:Array Oper}{Q:Exit->Act->World->Prop}{md:Region.Mode}{S:World->Prop}{N:Nat->Bool}{oi:Oper}{a0:Array Bool}(d:Option Tmp)(W:Nat->Bool)(hi:a3[i]?=some oi)(hd:oi.dst=d)(hs:Region.noSelect a3=true)(hf:Region.free md a3 a0 i=true)(hr:(Region.ready md a3 a0).contains i=true)(hl:Vv.waitW md a3 N W a0 i=true)(a4:∀j,W j=true->j<a3.size)
  (hQ:∀c a w,Q (.panic c) (a.put oi.dst v) w->Q (.panic c) a w) (hw:Region.wanted oi (yielded a3 a.tmps)=true) (hy:∀w,S w->(execOp a.eval oi).run P w=.ok (.value v) w) (hS:S w) (h:Vv.wpE P md a3 Q S N f (a0.setIfInBounds i true) (a.put d v) w):Vv.wpE P md a3 Q S N (f+1) a0 a w:=Vv.wpE_takeW W hi hs hf hr hl a4 hQ hw hy hS (by rw[hd];exact h)
theorem Aa{P:Program}{a3:Array Oper}{Q:Exit->Act->World->Prop}{md:Region.Mode}{S:World->Prop}{N:Nat->Bool}{oi:Oper}{a0:Array Bool}(d:Tmp)(W:List Nat)(i:Nat)(v:Value)(hS:S w)(h:Vv.wpE P md a3 Q S N f (a0.setIfInBounds i true) (a.put (some d) v) w)(hi:a3[i]?=some oi:=by rfl)(hd:oi.dst=some d:=by rfl)(hy:∀w,S w->(execOp a.eval oi).run P w=.ok (.value v) w:=by intro w hS;(try dsimp only at hS);go_split_ands;go_simp)(hb:(Region.noSelect a3 && (Region.free md a3 a0 i && ((Region.ready md a3 a0).contains i && (Vv.waitW md a3 N (λ j=>W.contains j) a0 i && W.all (λ j=>decide (j<a3.size))))))=true:=by kernel_rfl)(hw:Region.wanted oi (yielded a3 a.tmps)=true:=by first | rfl | kernel_rfl)(hQ:∀c a w,Q (.panic c) (a.put oi.dst v) w->Q (.panic c) a w:=by exact λ _ _ _ h=>h):Vv.wpE P md a3 Q S N (f+1) a0 a w:=by
 obtain⟨hs,hb⟩:=Bool.and_eq_true_iff.1 hb;obtain⟨hf,hb⟩:=Bool.and_eq_true_iff.1 hb;obtain⟨hr,hb⟩:=Bool.and_eq_true_iff.1 hb;obtain⟨hl,a4⟩:=Bool.and_eq_true_iff.1 hb;exact Xl (some d) (λ j=>W.contains j) hi hd hs hf hr hl (λ j hj=>by have:=all_eq_true.1 a4 j (by simpa using hj);simpa using this) hQ hw hy hS h
theorem Ah{P:Program}{a3:Array Oper}{Q:Exit->Act->World->Prop}{md:Region.Mode}{S:World->Prop}{N:Nat->Bool}{oi:Oper}{a0:Array Bool}(i:Nat)(h:∀K:Act->World->Prop,(∀a' w',(N i=true->S w')->Vv.wpE P md a3 Q S N f (a0.setIfInBounds i true) a' w'->K a' w')->oi.wp P a w K Q)(hi:a3[i]?=some oi:=by rfl)(hr:Region.ready md a3 a0=[i]:=by kernel_rfl)(hw:Region.wanted oi (yielded a3 a.tmps)=true:=by rfl):Vv.wpE P md a3 Q S N (f+1) a0 a w:=Vv.wpE_one hr hi hw h
theorem bcell{W:World}(hb:Below W.heap.size W w1):(∀b o,b<W.heap.size->w1.cell? ⟨b,o,none⟩=W.cell? ⟨b,o,none⟩)/\(∀b o,b<W.heap.size->w1.frozen? ⟨b,o,none⟩=W.frozen? ⟨b,o,none⟩):=
 ⟨λ b o h=>hb.cell (p:=⟨b,o,none⟩) h,λ b o h=>hb.frozen (p:=⟨b,o,none⟩) h⟩
theorem Ar(h:w.heap[g]?=some (.cells #[y0,y1,y2] T (0,0))):w.cell? ⟨g,0,none⟩=some y0/\w.cell? ⟨g,1,none⟩=some y1/\w.cell? ⟨g,2,none⟩=some y2/\w.frozen? ⟨g,0,none⟩=false/\w.frozen? ⟨g,1,none⟩=false/\w.frozen? ⟨g,2,none⟩=false:=by
 refine⟨?_,?_,?_,?_,?_,?_⟩
 all_goals first | simp[World.cell?,h] | simp[World.frozen?,h]
theorem Bc(h:w.heap[g]?=some (.cells #[y0,y1,y2,y3,y4,y5] T (0,0))):w.cell? ⟨g,0,none⟩=some y0/\w.cell? ⟨g,1,none⟩=some y1/\w.cell? ⟨g,2,none⟩=some y2/\w.cell? ⟨g,3,none⟩=some y3/\w.cell? ⟨g,4,none⟩=some y4/\w.cell? ⟨g,5,none⟩=some y5/\w.frozen? ⟨g,0,none⟩=false/\w.frozen? ⟨g,1,none⟩=false/\w.frozen? ⟨g,2,none⟩=false/\w.frozen? ⟨g,3,none⟩=false/\w.frozen? ⟨g,4,none⟩=false/\w.frozen? ⟨g,5,none⟩=false:=by
 refine⟨?_,?_,?_,?_,?_,?_,?_,?_,?_,?_,?_,?_⟩
 all_goals first | simp[World.cell?,h] | simp[World.frozen?,h]
theorem Ac{y6 y7:Value}(h:w.heap[g]?=some (.cells #[y0,y1,y2,y3,y4,y5,y6,y7] T (0,0))):w.cell? ⟨g,0,none⟩=some y0/\w.cell? ⟨g,1,none⟩=some y1/\w.cell? ⟨g,2,none⟩=some y2/\w.cell? ⟨g,3,none⟩=some y3/\w.cell? ⟨g,4,none⟩=some y4/\w.cell? ⟨g,5,none⟩=some y5/\w.cell? ⟨g,6,none⟩=some y6/\w.cell? ⟨g,7,none⟩=some y7/\w.frozen? ⟨g,0,none⟩=false/\w.frozen? ⟨g,1,none⟩=false/\w.frozen? ⟨g,2,none⟩=false/\w.frozen? ⟨g,3,none⟩=false/\w.frozen? ⟨g,4,none⟩=false/\w.frozen? ⟨g,5,none⟩=false/\w.frozen? ⟨g,6,none⟩=false/\w.frozen? ⟨g,7,none⟩=false:=by
 refine⟨?_,?_,?_,?_,?_,?_,?_,?_,?_,?_,?_,?_,?_,?_,?_,?_⟩
 all_goals first | simp[World.cell?,h] | simp[World.frozen?,h]
abbrev K3(w:World)(g:Nat)(x0 x1 x2:Value):World:=((w.setCell ⟨g,0,none⟩ x0).setCell ⟨g,1,none⟩ x1).setCell ⟨g,2,none⟩ x2
theorem K4(w:World)(g:Nat)(x0 x1 x2:Value):(K3 w g x0 x1 x2).heap.size=w.heap.size:=by simp[K3,World.setCell]
theorem Je{n:Nat}(h:Below n w w')(hg:n<=g)(x0 x1 x2:Value):Below n w (K3 w' g x0 x1 x2):=(((h.setCell (p:=⟨g,0,none⟩) hg x0).setCell (p:=⟨g,1,none⟩) hg x1).setCell (p:=⟨g,2,none⟩) hg x2)
theorem Nc(h:w.heap[g]?=some (.cells #[y0,y1,y2] T (0,0)))(x0 x1 x2:Value):(K3 w g x0 x1 x2).heap[g]?=some (.cells #[x0,x1,x2] T (0,0)):=by
 simp[K3,World.setCell,Array.getElem?_modify,h]
theorem Tv(w:World)(x0 x1 x2:Value):∃wz w4,w.alloc (.cells #[iv 0,iv 0,sE] 125)=wz/\K3 wz w.heap.size x0 x1 x2=w4/\Below w.heap.size w w4/\w4.heap.size=w.heap.size+1/\wz.heap.size=w.heap.size+1/\Below w.heap.size w wz/\w4.heap[w.heap.size]?=some (.cells #[x0,x1,x2] 125 (0,0))/\wz.heap[w.heap.size]?=some (.cells #[iv 0,iv 0,sE] 125 (0,0)):=by
 have hb:Below w.heap.size w (w.alloc (.cells #[iv 0,iv 0,sE] 125)):=(AF _ _).alloc (AD _) _;refine⟨_,_,rfl,rfl,Je hb (AD _) _ _ _,by rw[K4];simp,by simp,hb,Nc (heap_new _ _) _ _ _,heap_new _ _⟩
abbrev setc8(w:World)(g:Nat)(x0 x1 x2 x3 x4 x5 x6 x7:Value):World:=(((((((w.setCell ⟨g,0,none⟩ x0).setCell ⟨g,1,none⟩ x1).setCell ⟨g,2,none⟩ x2).setCell ⟨g,3,none⟩ x3).setCell ⟨g,4,none⟩ x4).setCell ⟨g,5,none⟩ x5).setCell ⟨g,6,none⟩ x6).setCell ⟨g,7,none⟩ x7
theorem A1(w:World)(g:Nat)(x0 x1 x2 x3 x4 x5 x6 x7:Value):(setc8 w g x0 x1 x2 x3 x4 x5 x6 x7).heap.size=w.heap.size:=by simp[setc8,World.setCell]
theorem A0{k:Nat}(hk:k≠g)(x0 x1 x2 x3 x4 x5 x6 x7:Value):(setc8 w g x0 x1 x2 x3 x4 x5 x6 x7).heap[k]?=w.heap[k]?:=by
 simp only[setc8];rw[Below.heap_setCell _ _ _ _ hk,Below.heap_setCell _ _ _ _ hk,Below.heap_setCell _ _ _ _ hk,Below.heap_setCell _ _ _ _ hk,Below.heap_setCell _ _ _ _ hk,Below.heap_setCell _ _ _ _ hk,Below.heap_setCell _ _ _ _ hk,Below.heap_setCell _ _ _ _ hk]
theorem Ap{n:Nat}(h:Below n w w')(hg:n<=g)(x0 x1 x2 x3 x4 x5 x6 x7:Value):Below n w (setc8 w' g x0 x1 x2 x3 x4 x5 x6 x7):=((((((((h.setCell (p:=⟨g,0,none⟩) hg x0).setCell (p:=⟨g,1,none⟩) hg x1).setCell (p:=⟨g,2,none⟩) hg x2).setCell (p:=⟨g,3,none⟩) hg x3).setCell (p:=⟨g,4,none⟩) hg x4).setCell (p:=⟨g,5,none⟩) hg x5).setCell (p:=⟨g,6,none⟩) hg x6).setCell (p:=⟨g,7,none⟩) hg x7)
theorem Nd{y6 y7:Value}(h:w.heap[g]?=some (.cells #[y0,y1,y2,y3,y4,y5,y6,y7] T (0,0)))(x0 x1 x2 x3 x4 x5 x6 x7:Value):(setc8 w g x0 x1 x2 x3 x4 x5 x6 x7).heap[g]?=some (.cells #[x0,x1,x2,x3,x4,x5,x6,x7] T (0,0)):=by
 simp[setc8,World.setCell,Array.getElem?_modify,h]
theorem Bs(w:World)(x0 x1 x2 x3 x4 x5 x6 x7:Value):∃wz w4,w.alloc (.cells #[iv 0,iv 0,iv 0,sE,iv 0,sE,sZ,iv 0] 48)=wz/\setc8 wz w.heap.size x0 x1 x2 x3 x4 x5 x6 x7=w4/\Below w.heap.size w w4/\w4.heap.size=w.heap.size+1/\wz.heap.size=w.heap.size+1/\Below w.heap.size w wz/\w4.heap[w.heap.size]?=some (.cells #[x0,x1,x2,x3,x4,x5,x6,x7] 48 (0,0))/\wz.heap[w.heap.size]?=some (.cells #[iv 0,iv 0,iv 0,sE,iv 0,sE,sZ,iv 0] 48 (0,0)):=by
 have hb:Below w.heap.size w (w.alloc (.cells #[iv 0,iv 0,iv 0,sE,iv 0,sE,sZ,iv 0] 48)):=(AF _ _).alloc (AD _) _;refine⟨_,_,rfl,rfl,Ap hb (AD _) _ _ _ _ _ _ _ _,by rw[A1];simp,by simp,hb,Nd (heap_new _ _) _ _ _ _ _ _ _ _,heap_new _ _⟩
def PaT(w:World)(tys:List (List UInt8))(v:Value):Prop:=∃row,SlRow (λ _=>True) w 3 v tys.length row/\∀(i:Nat) t,tys[i]?=some t->row[i*3+1]?=some (strV t)
def Xm(w:World)(hs:List Ck.Hd)(v:Value):Prop:=∃row,SlRow (λ _=>True) w 7 v hs.length row/\∀(i:Nat) h,hs[i]?=some h->∃(nm:ByteArray) (ps:Value) (la:Option Addr) (ln lc:Nat) (ba:Option Addr) (bn bc:Nat) (pl:Int),row[i*7]?=some (.string nm)/\row[i*7+1]?=some (.bool h.on)/\row[i*7+2]?=some ps/\row[i*7+3]?=some (strV h.result)/\row[i*7+4]?=some (.slice la ln lc)/\row[i*7+5]?=some (.slice ba bn bc)/\row[i*7+6]?=some (iv pl)/\PaT w h.params ps
theorem PaT.since{a0:List (List UInt8)}(h:PaT w a0 v)(s:Since (λ _=>True) w w'):PaT w' a0 v:=by
 obtain⟨row,h1,h2⟩:=h;exact⟨row,h1.since s,h2⟩
theorem Xm.since{hs:List Ck.Hd}(h:Xm w hs v)(s:Since (λ _=>True) w w'):Xm w' hs v:=by
 obtain⟨row,h1,h2⟩:=h;refine⟨row,h1.since s,λ i h hi=>?_⟩;obtain⟨nm,ps,la,ln,lc,ba,bn,bc,pl,a1,a2,a3,a4,a5,a6,a7,a8⟩:=h2 i h hi;exact⟨nm,ps,la,ln,lc,ba,bn,bc,pl,a1,a2,a3,a4,a5,a6,a7,a8.since s⟩
structure CkAt(w:World)(b mb:Nat)(c:Ck.Cx):Prop where
 blk:∃v0 ss fs ls,w.heap[b]?=some (.cells #[v0,ss,fs,.map (some mb),iv c.number,ls] 62 (0,0))/\Xm w c.heads fs
 env:A7 w mb c.env
theorem A7.since{env:Ck.Env}(h:A7 w b env)(e:w'.heap[b]?=w.heap[b]?):A7 w' b env:=by
 obtain⟨es,cl,h1,h2⟩:=h;exact⟨es,cl,e.trans h1,h2⟩
theorem A7.lt{env:Ck.Env}(h:A7 w b env):b<w.heap.size:=by
 obtain⟨es,cl,h1,h2⟩:=h;exact (AB h1).1
theorem CkAt.lt{c:Ck.Cx}(h:CkAt w b mb c):b<w.heap.size:=by
 obtain⟨v0,ss,fs,ls,h1,_⟩:=h.blk;exact (AB h1).1
theorem CkAt.keep{c:Ck.Cx}(h:CkAt w b mb c)(hb:Below w.heap.size w w'):CkAt w' b mb c:=by
 obtain⟨v0,ss,fs,ls,h1,h2⟩:=h.blk;exact⟨⟨v0,ss,fs,ls,(hb.block _ h.lt).trans h1,h2.since (Since.of_below hb)⟩,h.env.since (hb.block _ h.env.lt)⟩
def Ae(w:World)(r:Ck.R CE)(e:Ending)(w':World):Prop:=
 (match r with
 | .inl (.mk k o n t s y args)=>∃sl row,e=.returned (.agg #[iv k,iv o,iv n,strV t,iv s,strV y,sl,iv 0])/\SlRow (From w.heap.size) w' 8 sl args.length row/\Aw (From w.heap.size) w' args row
 | .inr (a,er)=>e=.panicked (Af a er))/\Below w.heap.size w w'
theorem Ae.of{r:Ck.R CE}{e:Ending}(h:Ae w1 r e w')(hb:Below w.heap.size w w1):Ae w r e w':=by
 obtain⟨h1,h2⟩:=h;refine⟨?_,hb.trans (h2.mono hb.size)⟩;rcases r with⟨k,o,n,t,s,y,args⟩ | ⟨a,er⟩
 .obtain⟨sl,row,e1,e2,e3⟩:=h1;have hs:=hb.size;exact⟨sl,row,e1,e2.base' (λ k hk _=>AP hs hk),e3.base (λ k hk _=>AP hs hk)⟩
 .exact h1
theorem SlRow.nil8{B:AS}:SlRow B w 8 sZ 0 []:=⟨rfl,AI ⟨rfl,rfl⟩⟩
theorem Aw.nil{B:AS}:Aw B w [] []:=by rw[Aw]
end
section
open Go.RowKit
open Ck (CE CS CF CP Mng)
attribute [local go_sem ↓] Go.wp_at_zero Go.wp_at_succ
theorem Xn{c:Ck.Cx}(h:CkAt w b mb c)(t:AQ)(p:Nat)(k o n s:Int)(y:ByteArray)(sl:Value) :
  AA 192 #[pt b 0,.agg #[iv k,iv o,iv n,strV t,iv s,.string y,sl,iv p]] w λ e w'=>Ae w (Ck.name c t p) e w':=by
 obtain⟨w0,ah⟩:∃w0,w.alloc (.cells #[iv k,iv o,iv n,strV t,iv s,.string y,sl,iv p] 48)=w0:=⟨_,rfl⟩;have ab:Below w.heap.size w w0:=by rw[<-ah];exact (AF _ _).alloc (AD _) _
 have b8:w0.heap.size=w.heap.size+1:=by rw[<-ah];simp
 have b4:w0.heap[w.heap.size]?=some (.cells #[iv k,iv o,iv n,strV t,iv s,.string y,sl,iv p] 48 (0,0)):=by rw[<-ah];exact heap_new _ _
 obtain⟨w1,-,bc,-,-,-,be,b0,-,bg⟩:=Bs w0 (iv 0) (iv 0) (iv 0) sE (iv 0) sE sZ (iv 0);have l0:w.heap.size<w0.heap.size:=by omega
 have l1:w0.heap.size<w1.heap.size:=by omega
 clear b8 be;have ar:Below w.heap.size w w1:=ab.trans (b0.mono (by omega));have hc:=h.keep ar;have hb:=h.lt;obtain⟨v0,ss,fs,ls,ae,-⟩:=hc.blk;have a6:=hc.env;have bh:=(b0.block _ (by omega)).trans b4;obtain⟨c0,c1,c2,c3,c4,c5,-⟩:=Bc ae;obtain⟨d0,d1,d2,d3,d4,d5,d6,d7,-⟩:=Ac bh;have av:=λ w' (he:A7 w' mb c.env)=>E6 he t
 have aw:Ck.name c t p=Ck.bind (Ck.need ((Ck.look c.env t).kind != 0 && (Ck.look c.env t).kind != 2) p 33) λ _=>.inl (.mk (if (Ck.look c.env t).kind=1 then 5 else 4) 0 0 [] (Ck.look c.env t).slot (Ck.look c.env t).type []):=rfl
 rw[aw];generalize Ck.look c.env t=m at *;obtain⟨mk,ms,mt⟩:=m;simp only at *;obtain⟨R,HR⟩:∃R,Hid ((Ck.bind (Ck.need (mk != 0 && mk != 2) p 33) λ _=>.inl (CE.mk (if mk=1 then 5 else 4) 0 0 [] ms mt []))=R):=⟨_,rfl⟩;rw[HR.out];clear aw hc ae h;go_enter func192,ntmps192;go_wp2_with fail;refine Vv.wpE_begin (S:=λ w'=>w'.cell? ⟨b,3,none⟩=some (.map (some mb))/\w'.cell? ⟨w.heap.size,3,none⟩=some (strV t)/\A7 w' mb c.env) (N:=λ _=>true) (by kernel_rfl) ?_;have aa:w1.drew.cell? ⟨b,3,none⟩=some (.map (some mb))/\w1.drew.cell? ⟨w.heap.size,3,none⟩=some (strV t)/\A7 w1.drew mb c.env:=⟨c3,d3,a6⟩;refine Aa 7 [] 0 (pt b 0) aa ?_
 try simp only[aP]
 refine Aa 8 [] 1 (pt b 0) aa ?_
 try simp only[aP]
 refine Aa 9 [] 2 (pt b 3) aa ?_
 try simp only[aP]
 refine Aa 10 [] 3 (.map (some mb)) aa ?_
 try simp only[aP]
 refine Aa 11 [] 4 (pt w.heap.size 3) aa ?_
 try simp only[aP]
 refine Aa 12 [] 5 (strV t) aa ?_
 try simp only[aP]
 refine Aa 13 [] 6 (G3 ⟨mk,ms,mt⟩) aa ?_ (hy:=(λ w' hS=>by obtain⟨g0,g1,g2⟩:=hS;have hr:=av w' g2;go_simp))
 try simp only[aP]
 obtain⟨wz,w3,ba,al,a7,aq,au,af,a3,a5⟩:=Tv w1.drew (iv mk) (iv ms) (strV mt);refine Ah 7 λ K hK=>?_
 go_simp;refine hK _ _ (λ _=>⟨((bcell af).1 _ _ (show b<w1.heap.size by omega)).trans c3,((bcell af).1 _ _ (show w.heap.size<w1.heap.size by omega)).trans d3,a6.since (af.block _ a6.lt)⟩) ?_;clear hK K
 try simp only[aP]
 replace a5:wz.heap[w1.heap.size]?=some (.cells #[iv 0,iv 0,sE] 125 (0,0)):=a5;replace a3:w3.heap[w1.heap.size]?=some (.cells #[iv mk,iv ms,strV mt] 125 (0,0)):=a3;replace al:((wz.setCell ⟨w1.heap.size,0,none⟩ (iv mk)).setCell ⟨w1.heap.size,1,none⟩ (iv ms)).setCell ⟨w1.heap.size,2,none⟩ (.string ⟨mt.toArray⟩)=w3:=al;have bj:w1.heap.size<w3.heap.size:=by have e:w3.heap.size=w1.heap.size+1:=aq;omega
 have b6:w1.heap.size<wz.heap.size:=by have e:wz.heap.size=w1.heap.size+1:=au;omega
 clear aq au;replace a7:Below w1.heap.size w1 w3:=⟨a7.os,a7.tape,a7.output,a7.size,a7.block⟩;obtain⟨z0,z1,z2,f0,f1,f2⟩:=Ar a5;have k3:=((bcell a7).1 b 3 (by omega)).trans c3;have kd:=((bcell a7).1 w.heap.size 3 (by omega)).trans d3;refine Ah 8 λ K hK=>?_
 go_simp;refine hK _ _ (λ _=>⟨k3,kd,a6.since (a7.block _ a6.lt)⟩) ?_;clear hK K
 try simp only[aP]
 refine Vv.wpE_done (by kernel_rfl) ?_;have k7:=((bcell a7).1 w.heap.size 7 (by omega)).trans d7;obtain⟨n0,n1,n2,-⟩:=Ar a3;have ax:Below w.heap.size w w3:=ar.trans (a7.mono (by omega));have ak:=(a7.block _ (by omega)).trans bg;clear z0 z1 z2 f0 f1 f2 b6 ba al aa av c0 c1 c2 c3 c4 c5 d0 d1 d2 d3 d4 d5 d6 d7 a6 ah bc a5 af;simp only[Exit.inBlock,Exit.then];refine ‹∀(a:Act) (w:World),_->_› _ _ ?_;have ad:Hid ((mk != 0 && mk != 2)=(((mk:Int) != 0) && ((mk:Int) != 2))):=by
  show _=_;have e0:((mk:Int) != 0)=(mk != 0):=by rw[Bool.eq_iff_iff];simp
  have e2:((mk:Int) != 2)=(mk != 2):=by rw[Bool.eq_iff_iff];simp;omega
  rw[e0,e2]
 cases hq:(mk != 0 && mk != 2)
 .have a0:Hid (Ae w R (.panicked (Af p 33)) w3):=by rw[<-HR.out,hq];exact⟨rfl,ax⟩
  rw[hq] at ad;have hN:=Ao p 33 w3;have ab:((mk:Int) != 0)=false\/((mk:Int) != 0)=true:=by cases ((mk:Int) != 0) <;> simp
  rcases ab with ab | ab
  .go_wp2_with fail
   refine hN.mono ?_;rintro e w4 ⟨rfl,rfl⟩;exact⟨rfl,a0.out⟩
  .have b9:((mk:Int) != 2)=false:=by have:=ad.out;rw[ab] at this;simpa using this.symm
   go_wp2_with fail
   refine hN.mono ?_;rintro e w4 ⟨rfl,rfl⟩;exact⟨rfl,a0.out⟩
 .rw[hq] at ad;have ab:((mk:Int) != 0)=true:=by exact (Bool.and_eq_true_iff.1 ad.out.symm).1
  have b9:((mk:Int) != 2)=true:=by exact (Bool.and_eq_true_iff.1 ad.out.symm).2
  have hN:=Av p 33 w3;have Hq:Hid ((mk != 0 && mk != 2)=true):=hq;clear ad hq;go_wp2_with fail;refine hN.mono ?_;rintro e w4 ⟨rfl,b3⟩;obtain rfl:=b3.symm;clear hN;obtain⟨wy,w5,bo,bk,am,b7,b5,bi,a4,a8⟩:=Bs w3 (iv 4) (iv 0) (iv 0) sE (iv ms) (strV mt) sZ (iv 0);obtain⟨z0,z1,z2,z3,z4,z5,z6,z7,f0,f1,f2,f3,f4,f5,f6,f7⟩:=Ac a8;have bl:w3.heap.size<wy.heap.size:=by omega
  have bp:w3.heap.size<w5.heap.size:=by omega
  clear b7 b5;have p0:=((bcell am).1 w1.heap.size 0 (by omega)).trans n0;have az:Below w.heap.size w w5:=ax.trans (am.mono (by omega));have ag:=(am.block _ (by omega)).trans ak;by_cases h1:mk=1
  .have bf:((mk:Int) == 1)=true:=by simp[h1]
   obtain⟨g0,g1,g2,g3,g4,g5,g6,g7,e0,e1,e2,e3,e4,e5,e6,e7⟩:=Ac a4;obtain⟨w6,ai⟩:∃w6,w5.setCell ⟨w3.heap.size,0,none⟩ (iv 5)=w6:=⟨_,rfl⟩;have a9:w6.heap[w3.heap.size]?=some (.cells #[iv 5,iv 0,iv 0,sE,iv ms,strV mt,sZ,iv 0] 48 (0,0)):=by
    rw[<-ai];simp[World.setCell,Array.getElem?_modify,a4]
   have bb:Below w.heap.size w w6:=by rw[<-ai];exact az.setCell (p:=⟨w3.heap.size,0,none⟩) (by show w.heap.size<=w3.heap.size;omega) _
   have ay:w6.heap[w0.heap.size]?=some (.cells #[iv 0,iv 0,iv 0,sE,iv 0,sE,sZ,iv 0] 48 (0,0)):=by rw[<-ai,Below.heap_setCell _ _ _ _ (by show w0.heap.size≠w3.heap.size;omega)];exact ag
   obtain⟨q0,q1,q2,q3,q4,q5,q6,q7,-⟩:=Ac a9;obtain⟨r0,r1,r2,r3,r4,r5,r6,r7,t0,t1,t2,t3,t4,t5,t6,t7⟩:=Ac ay;have bn:w3.heap.size<w6.heap.size:=(AB a9).1;have aj:w0.heap.size<w6.heap.size:=by omega
   have a0:Ae w R (.returned (.agg #[iv 5,iv 0,iv 0,sE,iv ms,strV mt,sZ,iv 0])) (setc8 w6 w0.heap.size (iv 5) (iv 0) (iv 0) sE (iv ms) (strV mt) sZ (iv 0)):=by
    rw[<-HR.out,Hq.out,if_pos h1];exact⟨⟨_,_,rfl,SlRow.nil8,Aw.nil⟩,Ap bb (by omega) _ _ _ _ _ _ _ _⟩
   clear h1 a9 ay ag ak a4 a8 a3;go_wp2_with fail;exact bodyPost_ret (by simp[results,results192,go_sem,aj,r0,r1,r2,r3,r4,r5,r6,r7]) rfl a0
  .have bf:((mk:Int) == 1)=false:=by simp;omega
   obtain⟨q0,q1,q2,q3,q4,q5,q6,q7,-⟩:=Ac a4;obtain⟨r0,r1,r2,r3,r4,r5,r6,r7,t0,t1,t2,t3,t4,t5,t6,t7⟩:=Ac ag;have aj:w0.heap.size<w5.heap.size:=by omega
   have a0:Ae w R (.returned (.agg #[iv 4,iv 0,iv 0,sE,iv ms,strV mt,sZ,iv 0])) (setc8 w5 w0.heap.size (iv 4) (iv 0) (iv 0) sE (iv ms) (strV mt) sZ (iv 0)):=by
    rw[<-HR.out,Hq.out,if_neg h1];exact⟨⟨_,_,rfl,SlRow.nil8,Aw.nil⟩,Ap az (by omega) _ _ _ _ _ _ _ _⟩
   clear h1 ag ak a4 a8 a3;go_wp2_with fail;exact bodyPost_ret (by simp[results,results192,go_sem,aj,r0,r1,r2,r3,r4,r5,r6,r7]) rfl a0
abbrev exA(k o n:Nat)(t:AQ)(sl:Value)(p:Nat):Array Value:=#[iv k,iv o,iv n,strV t,iv 0,sE,sl,iv p]
structure CxOk(c:Ck.Cx):Prop where
 env:∀x∈c.env,x.2.type.length<=1000
 res:∀h∈c.heads,h.result.length<=1000
 pars:∀h∈c.heads,∀t∈h.params,t.length<=1000
 num:c.number<=c.heads.length
def EOk(x:Px.Ex):Prop:=∀(k o n:Nat) (t:AQ) (args:List Px.Ex) (p:Nat),x=.mk k o n t args p->∀(w:World) (b mb:Nat) (c:Ck.Cx) (B:AS) (sl:Value) (row:AR),CkAt w b mb c->CxOk c->SlRow B w 8 sl args.length row->Aj B w args row ->
  AA 168 #[pt b 0,.agg (exA k o n t sl p)] w λ e w'=>Ae w (Ck.cE c x) e w'
theorem Ae.inl{k o n s:Nat}{t y:AQ}{args:List CE}{e:Ending}(h:Ae w (.inl (.mk k o n t s y args)) e w'):∃sl row,e=.returned (.agg #[iv k,iv o,iv n,strV t,iv s,strV y,sl,iv 0])/\SlRow (From w.heap.size) w' 8 sl args.length row/\Aw (From w.heap.size) w' args row/\Below w.heap.size w w':=by
 obtain⟨⟨sl,row,h1,h2,h3⟩,h4⟩:=h;exact⟨sl,row,h1,h2,h3,h4⟩
theorem SlRow.val{B:AS}{n:Nat}{row:AR}(h:SlRow B w sz v n row):∃ao cap,v=.slice ao n cap/\n<=cap/\cap<=9223372036854775807:=by
 rcases h.2 with⟨rfl,rfl⟩ | ⟨g,o,cap,rfl,h1,h2,_⟩
 .exact⟨none,0,rfl,AD _,by omega⟩
 .exact⟨_,cap,rfl,h1,by unfold maxLen at h2;omega⟩
theorem Az(w:World)(x0 x1 x2 x3 x4 x5 x6 x7:Value):∃w0 w1,w.alloc (.cells #[x0,x1,x2,x3,x4,x5,x6,x7] 48)=w0/\w0.alloc (.cells #[iv 0,iv 0,iv 0,sE,iv 0,sE,sZ,iv 0] 48)=w1/\w.heap.size<w0.heap.size/\w0.heap.size<w1.heap.size/\Below w.heap.size w w1/\w1.heap[w.heap.size]?=some (.cells #[x0,x1,x2,x3,x4,x5,x6,x7] 48 (0,0))/\w1.heap[w0.heap.size]?=some (.cells #[iv 0,iv 0,iv 0,sE,iv 0,sE,sZ,iv 0] 48 (0,0)):=by
 obtain⟨w0,a0⟩:∃w0,w.alloc (.cells #[x0,x1,x2,x3,x4,x5,x6,x7] 48)=w0:=⟨_,rfl⟩;have a6:Below w.heap.size w w0:=by rw[<-a0];exact (AF _ _).alloc (AD _) _
 have a8:w0.heap.size=w.heap.size+1:=by rw[<-a0];simp
 have a7:w0.heap[w.heap.size]?=some (.cells #[x0,x1,x2,x3,x4,x5,x6,x7] 48 (0,0)):=by rw[<-a0];exact heap_new _ _
 obtain⟨w1,-,a4,-,-,-,a9,a3,-,a5⟩:=Bs w0 x0 x1 x2 x3 x4 x5 x6 x7;exact⟨w0,w1,a0,a4,by omega,by omega,a6.trans (a3.mono (by omega)),(a3.block _ (by omega)).trans a7,a5⟩
theorem B4{x:Px.Ex}(hE:EOk x){k o n:Nat}{t:AQ}{args:List Px.Ex}(hx:x=.mk k o n t args p){c:Ck.Cx}{B:AS}{row:AR}(hc:CkAt w b mb c)(al:CxOk c)(hr:SlRow B w 8 sl args.length row)(ha:Aj B w args row)(ty:AQ) :
  AA 143 #[pt b 0,.agg (exA k o n t sl p),strV ty] w λ e w'=>Ae w (Ck.asked (Ck.cE c x,p) ty) e w':=by
 obtain⟨w0,w1,aq,am,l0,l1,a5,av,au⟩:=Az w (iv k) (iv o) (iv n) (strV t) (iv 0) sE sl (iv p);have hC:=hE k o n t args p hx w1 b mb c B sl row (hc.keep a5) al (hr.since (Since.of_below a5)) (ha.since (Since.of_below a5));obtain⟨ao,cap,rfl,-,-⟩:=hr.val;obtain⟨d0,d1,d2,d3,d4,d5,d6,d7,-⟩:=Ac av;obtain⟨R,HR⟩:∃R,Hid (Ck.asked (Ck.cE c x,p) ty=R):=⟨_,rfl⟩;rw[HR.out];obtain⟨C,HC⟩:∃C,Hid (Ck.cE c x=C):=⟨_,rfl⟩;rw[HC.out] at hC HR;clear hc hr ha hE hx HC;go_enter func143,ntmps143;go_wp2_with fail;refine hC.mono ?_;rintro e w2 hP;clear hC aq am;rcases C with⟨k2,o2,n2,t2,s2,y2,a3⟩ | ⟨a,er⟩
 .obtain⟨sl2,row2,rfl,a8,ab,a9⟩:=hP.inl;obtain⟨wz,w3,ay,az,aa,ag,ai,ax,a7,a6⟩:=Bs w2 (iv k2) (iv o2) (iv n2) (strV t2) (iv s2) (strV y2) sl2 (iv 0);obtain⟨a2,c2,rfl,-,-⟩:=a8.val;have aj:=a9.size;have lz:w2.heap.size<wz.heap.size:=by omega
  have l3:w2.heap.size<w3.heap.size:=by omega
  clear ag ai;obtain⟨z0,z1,z2,z3,z4,z5,z6,z7,f0,f1,f2,f3,f4,f5,f6,f7⟩:=Ac a6;obtain⟨q0,q1,q2,q3,q4,q5,q6,q7,-⟩:=Ac a7;have a4:Below w1.heap.size w1 w3:=a9.trans (aa.mono aj);have p7:=((bcell a4).1 w.heap.size 7 (by omega)).trans d7;have ad:Below w.heap.size w w3:=a5.trans (a4.mono (by omega));have ak:=(a4.block _ (by omega)).trans au;obtain⟨r0,r1,r2,r3,r4,r5,r6,r7,t0,t1,aw,t3,t4,t5,t6,t7⟩:=Ac ak;have ar:w0.heap.size<w3.heap.size:=by omega
  cases hq:(y2 == ty)
  .have a0:Hid (Ae w R (.panicked (Af p 35)) w3):=by
    rw[<-HR.out];show Ae w (Ck.bind (Ck.need (y2 == ty) p 35) λ _=>_) _ _;rw[hq];exact⟨rfl,ad⟩
   have hN:=Ao p 35 w3;clear hP a8 ab HR;go_wp2_with fail;refine hN.mono ?_;rintro e w4 ⟨rfl,rfl⟩;exact⟨rfl,a0.out⟩
  .have a0:Ae w R (.returned (.agg #[iv k2,iv o2,iv n2,strV t2,iv s2,strV y2,.slice a2 a3.length c2,iv 0])) (setc8 w3 w0.heap.size (iv k2) (iv o2) (iv n2) (strV t2) (iv s2) (strV y2) (.slice a2 a3.length c2) (iv 0)):=by
    rw[<-HR.out];show Ae w (Ck.bind (Ck.need (y2 == ty) p 35) λ _=>_) _ _;rw[hq];have ae:Since (From w1.heap.size) w2 (setc8 w3 w0.heap.size (iv k2) (iv o2) (iv n2) (strV t2) (iv s2) (strV y2) (.slice a2 a3.length c2) (iv 0)):=⟨by rw[A1];exact aa.size,λ j h1 h2=>by rw[A0 (by have:w1.heap.size<=j:=h1;omega)];exact aa.block j h2⟩;have af:∀j,From w1.heap.size j->j<(setc8 w3 w0.heap.size (iv k2) (iv o2) (iv n2) (strV t2) (iv s2) (strV y2) (.slice a2 a3.length c2) (iv 0)).heap.size->From w.heap.size j:=λ j hj _=>by show w.heap.size<=j;have:w1.heap.size<=j:=hj;omega
    exact⟨⟨_,_,rfl,(a8.since ae).base' af,(ab.since ae).base af⟩,Ap ad (by omega) _ _ _ _ _ _ _ _⟩
   have hN:=Av p 35 w3;clear hP a8 ab HR;go_wp2_with fail;refine hN.mono ?_;rintro e w4 ⟨rfl,ah⟩;obtain rfl:=ah.symm;clear hN;go_wp2_with fail;exact bodyPost_ret (by simp[results,results143,go_sem,ar,r0,r1,r2,r3,r4,r5,r6,r7]) rfl a0
 .obtain⟨hm,a9⟩:=hP;obtain rfl:=hm;have a0:Ae w R (.panicked (Af a er)) w2:=by rw[<-HR.out];exact⟨rfl,a5.trans (a9.mono (by omega))⟩
  exact⟨rfl,a0⟩
theorem Bd{B:AS}{args:List Px.Ex}{row:AR}(hr:SlRow B w 8 sl args.length row)(ha:Aj B w args row){x:Px.Ex}(hi:args[0]?=some x):∃(g og cap k o n:Nat) (t:AQ) (a2:List Px.Ex) (p:Nat) (sl2:Value) (row2:AR),sl=sL g og args.length cap/\args.length<=cap/\g<w.heap.size/\x=.mk k o n t a2 p/\(w.cell? ⟨g,og,none⟩=some (iv k)/\w.cell? ⟨g,og+1,none⟩=some (iv o)/\w.cell? ⟨g,og+2,none⟩=some (iv n)/\w.cell? ⟨g,og+3,none⟩=some (strV t)/\w.cell? ⟨g,og+4,none⟩=some (iv 0)/\w.cell? ⟨g,og+5,none⟩=some sE/\w.cell? ⟨g,og+6,none⟩=some (sl2)/\w.cell? ⟨g,og+7,none⟩=some (iv p))/\SlRow B w 8 sl2 a2.length row2/\Aj B w a2 row2:=by
 have a6:=(AK hi).1;obtain⟨cs,a4,a3⟩:=ha.get hi;obtain⟨k,o,n,t,a2,p⟩:=x;rw[IsEx] at a4;obtain⟨sl2,row2,rfl,h2,h3⟩:=a4;rcases hr.2 with⟨_,h0⟩ | ⟨g,og,cap,hv,a5,a7,hB,hg,a0⟩
 .omega
 .refine⟨g,og,cap,k,o,n,t,a2,p,sl2,row2,hv,a5,hg,rfl,⟨a0 0 _ (a3 0 (by omega)),a0 1 _ (a3 1 (by omega)),a0 2 _ (a3 2 (by omega)),a0 3 _ (a3 3 (by omega)),a0 4 _ (a3 4 (by omega)),a0 5 _ (a3 5 (by omega)),a0 6 _ (a3 6 (by omega)),a0 7 _ (a3 7 (by omega))⟩,h2,h3⟩
theorem D6{B:AS}{args:List Px.Ex}{row:AR}(hr:SlRow B w 8 sl args.length row)(ha:Aj B w args row){x:Px.Ex}(hi:args[1]?=some x):∃(g og cap k o n:Nat) (t:AQ) (a2:List Px.Ex) (p:Nat) (sl2:Value) (row2:AR),sl=sL g og args.length cap/\args.length<=cap/\g<w.heap.size/\x=.mk k o n t a2 p/\(w.cell? ⟨g,og+8,none⟩=some (iv k)/\w.cell? ⟨g,og+9,none⟩=some (iv o)/\w.cell? ⟨g,og+10,none⟩=some (iv n)/\w.cell? ⟨g,og+11,none⟩=some (strV t)/\w.cell? ⟨g,og+12,none⟩=some (iv 0)/\w.cell? ⟨g,og+13,none⟩=some sE/\w.cell? ⟨g,og+14,none⟩=some (sl2)/\w.cell? ⟨g,og+15,none⟩=some (iv p))/\SlRow B w 8 sl2 a2.length row2/\Aj B w a2 row2:=by
 have a6:=(AK hi).1;obtain⟨cs,a4,a3⟩:=ha.get hi;obtain⟨k,o,n,t,a2,p⟩:=x;rw[IsEx] at a4;obtain⟨sl2,row2,rfl,h2,h3⟩:=a4;rcases hr.2 with⟨_,h0⟩ | ⟨g,og,cap,hv,a5,a7,hB,hg,a0⟩
 .omega
 .refine⟨g,og,cap,k,o,n,t,a2,p,sl2,row2,hv,a5,hg,rfl,⟨a0 8 _ (a3 0 (by omega)),a0 9 _ (a3 1 (by omega)),a0 10 _ (a3 2 (by omega)),a0 11 _ (a3 3 (by omega)),a0 12 _ (a3 4 (by omega)),a0 13 _ (a3 5 (by omega)),a0 14 _ (a3 6 (by omega)),a0 15 _ (a3 7 (by omega))⟩,h2,h3⟩
theorem D7{n:Nat}{x0 x1 x2 x3 x4 x5 x6 x7:Value}(hn:n<=w.heap.size):SlRow (From n) (w.alloc (.cells #[x0,x1,x2,x3,x4,x5,x6,x7] 48)) 8 (sL w.heap.size 0 1 1) 1 [x0,x1,x2,x3,x4,x5,x6,x7]:=by
 refine⟨rfl,AJ ⟨w.heap.size,0,1,rfl,AD _,by unfold maxLen;omega,hn,by simp,λ j u hj=>?_⟩⟩;rw[Nat.zero_add];have hb:=heap_new w (.cells #[x0,x1,x2,x3,x4,x5,x6,x7] 48);have:(w.alloc (.cells #[x0,x1,x2,x3,x4,x5,x6,x7] 48)).cell? ⟨w.heap.size,j,none⟩=(#[x0,x1,x2,x3,x4,x5,x6,x7]:Array Value)[j]?:=by simp only[World.cell?,hb];rfl
 rw[this,<-hj,List.getElem?_toArray]
theorem K5{n:Nat}{x0 x1 x2 x3 x4 x5 x6 x7 y6 y7:Value}(hn:n<=w.heap.size):SlRow (From n) (w.alloc (.cells #[x0,x1,x2,x3,x4,x5,x6,x7,y0,y1,y2,y3,y4,y5,y6,y7] 48)) 8 (sL w.heap.size 0 2 2) 2 [x0,x1,x2,x3,x4,x5,x6,x7,y0,y1,y2,y3,y4,y5,y6,y7]:=by
 refine⟨rfl,AJ ⟨w.heap.size,0,2,rfl,AD _,by unfold maxLen;omega,hn,by simp,λ j u hj=>?_⟩⟩;rw[Nat.zero_add];have hb:=heap_new w (.cells #[x0,x1,x2,x3,x4,x5,x6,x7,y0,y1,y2,y3,y4,y5,y6,y7] 48);have:(w.alloc (.cells #[x0,x1,x2,x3,x4,x5,x6,x7,y0,y1,y2,y3,y4,y5,y6,y7] 48)).cell? ⟨w.heap.size,j,none⟩=(#[x0,x1,x2,x3,x4,x5,x6,x7,y0,y1,y2,y3,y4,y5,y6,y7]:Array Value)[j]?:=by simp only[World.cell?,hb];rfl
 rw[this,<-hj,List.getElem?_toArray]
theorem C1{B:AS}{k o n s:Nat}{t y:AQ}{args:List CE}{row:AR}(h1:SlRow B w 8 sl args.length row)(h2:Aw B w args row):Cl B w (.mk k o n t s y args) [iv k,iv o,iv n,strV t,iv s,strV y,sl,iv 0]:=by
 rw[Cl];exact⟨sl,row,rfl,h1,h2⟩
theorem Jk{B:AS}{x:CE}(h:Cl B w x cs):Aw B w [x] cs:=by
 rw[Aw];exact⟨cs,[],by simp,h,Aw.nil⟩
theorem Aq6{B:AS}{x y:CE}{ds:AR}(h:Cl B w x cs)(h2:Cl B w y ds):Aw B w [x,y] (cs ++ ds):=by
 rw[Aw];exact⟨cs,ds,rfl,h,Jk h2⟩
theorem Rg{x y:Px.Ex}(hE:EOk x)(bn:EOk y){k o n:Nat}{t:AQ}{c:Ck.Cx}{B:AS}{row:AR}(hc:CkAt w b mb c)(bj:CxOk c)(hr:SlRow B w 8 sl 2 row)(ha:Aj B w [x,y] row) :
  AA 197 #[pt b 0,.agg (exA k o n t sl p)] w λ e w'=>Ae w (Ck.binary k o p (Ck.cEs c [x,y])) e w':=by
 obtain⟨w0,w1,ce,cc,l0,l1,ag,cm,cl⟩:=Az w (iv k) (iv o) (iv n) (strV t) (iv 0) sE sl (iv p);have b4:=hr.since (Since.of_below ag);have ax:=ha.since (Since.of_below ag);have bh:=hc.keep ag;obtain⟨g,og,cap,ka,oa,na,ta,aa,pa,c8,b7,rfl,b0,hg,rfl,⟨u0,u1,u2,u3,u4,u5,u6,u7⟩,ay,bp⟩:=Bd (args:=[x,y]) b4 ax rfl;obtain⟨g',cq,c3,kb,ob,nb,tb,ab,pb,ci,b8,e,-,-,rfl,⟨v0,v1,v2,v3,v4,v5,v6,v7⟩,be,bs⟩:=D6 (args:=[_,y]) b4 ax rfl;simp only[Value.slice.injEq,Option.some.injEq,Addr.mk.injEq,and_true] at e;obtain⟨⟨rfl,rfl⟩,-,rfl⟩:=e;simp only[length_cons,length_nil,Nat.zero_add] at b0;have hC:=hE ka oa na ta aa pa rfl w1 b mb c B c8 b7 bh bj ay bp;have bk:=λ w' (hb:Below w1.heap.size w1 w')=>bn kb ob nb tb ab pb rfl w' b mb c B ci b8 (bh.keep hb) bj (be.since (Since.of_below hb)) (bs.since (Since.of_below hb))
 obtain⟨cr,bx,rfl,-,-⟩:=ay.val;obtain⟨cw,cg,rfl,-,-⟩:=be.val;obtain⟨d0,d1,d2,d3,d4,d5,d6,d7,-⟩:=Ac cm;obtain⟨R,HR⟩:∃R,Hid (Ck.binary k o p (Ck.cEs c [.mk ka oa na ta aa pa,.mk kb ob nb tb ab pb])=R):=⟨_,rfl⟩;rw[HR.out];have am:Hid (R=Ck.bind (Ck.cE c (.mk ka oa na ta aa pa)) λ x=>Ck.bind (Ck.cE c (.mk kb ob nb tb ab pb)) λ y=>Ck.bind (Ck.need ((Ck.operated o x.type).2 && x.type == y.type) p 35) λ _=>.inl (.mk k o 0 [] 0 (Ck.operated o x.type).1 [x,y])):=by
  show _=_;rw[<-HR.out];simp only[Ck.binary,Ck.cEs,Ck.arg,getD_cons_zero,getD_cons_succ]
 clear HR;generalize Ck.cE c (.mk ka oa na ta aa pa)=C at *;generalize Ck.cE c (.mk kb ob nb tb ab pb)=C2 at *;have cu:([Px.Ex.mk ka oa na ta aa pa,.mk kb ob nb tb ab pb]:List Px.Ex).length=2:=rfl;have i0:(0:Int)<2:=by omega
 clear hc hr ha hE bn b4 ax bh ay bp be bs;simp only[length_cons,length_nil,Nat.zero_add] at *;go_enter func197,ntmps197;go_wp2_with fail;refine hC.mono ?_;rintro e w2 hP;clear hC ce cc;rcases C with⟨k2,o2,n2,t2,s2,y2,a6⟩ | ⟨a,er⟩
 rotate_left
 .obtain⟨hm,ar⟩:=hP;obtain rfl:=hm;have a0:Ae w R (.panicked (Af a er)) w2:=by rw[am.out];exact⟨rfl,ag.trans (ar.mono (by omega))⟩
  exact⟨rfl,a0⟩
 obtain⟨sl2,row2,rfl,al,bg,ar⟩:=hP.inl;obtain⟨wz,w3,b9,cj,ba,bv,b3,c0,ad,a8⟩:=Bs w2 (iv k2) (iv o2) (iv n2) (strV t2) (iv s2) (strV y2) sl2 (iv 0);obtain⟨a2,c2,rfl,-,-⟩:=al.val;have c1:=ar.size;have lz:w2.heap.size<wz.heap.size:=by omega
 have l3:w2.heap.size<w3.heap.size:=by omega
 clear bv b3;obtain⟨z0,z1,z2,z3,z4,z5,z6,z7,f0,f1,f2,f3,f4,f5,f6,f7⟩:=Ac a8;have a3:Below w1.heap.size w1 w3:=ar.trans (ba.mono c1);obtain⟨bc,-⟩:=bcell a3;have g1:g<w3.heap.size:=by have:=a3.size;omega
 rw[<-bc w.heap.size _ (by omega)] at d0 d1 d2 d3 d4 d5 d6 d7;rw[<-bc g _ hg] at v0 v1 v2 v3 v4 v5 v6 v7;have bt:=bk w3 a3;clear u0 u1 u2 u3 u4 u5 u6 u7 hP bk bc;go_wp2_with fail;refine bt.mono ?_;rintro e w4 hP;clear bt b9 cj z0 z1 z2 z3 z4 z5 z6 z7 f0 f1 f2 f3 f4 f5 f6 f7 v0 v1 v2 v3 v4 v5 v6 v7;rcases C2 with⟨k4,o4,n4,t4,s4,y4,a7⟩ | ⟨a,er⟩
 rotate_left
 .obtain⟨hm,aw⟩:=hP;obtain rfl:=hm;have a0:Ae w R (.panicked (Af a er)) w4:=by rw[am.out];exact⟨rfl,ag.trans ((a3.trans (aw.mono a3.size)).mono (by omega))⟩
  exact⟨rfl,a0⟩
 obtain⟨c9,cd,rfl,av,az,aw⟩:=hP.inl;obtain⟨wz,w5,b9,cf,bf,c5,b3,c0,ae,a8⟩:=Bs w4 (iv k4) (iv o4) (iv n4) (strV t4) (iv s4) (strV y4) c9 (iv 0);obtain⟨a4,c4,rfl,-,-⟩:=av.val;have ch:=aw.size;have lz:w4.heap.size<wz.heap.size:=by omega
 have l5:w4.heap.size<w5.heap.size:=by omega
 clear c5 b3;obtain⟨z0,z1,z2,z3,z4,z5,z6,z7,f0,f1,f2,f3,f4,f5,f6,f7⟩:=Ac a8;have a5:Below w3.heap.size w3 w5:=aw.trans (bf.mono ch);obtain⟨bc,-⟩:=bcell a5;have ai:=a3.size;rw[<-bc w.heap.size _ (by omega)] at d0 d1 d2 d3 d4 d5 d6 d7;have a9:=(a5.block _ (by omega)).trans ad;obtain⟨q0,q1,q2,q3,q4,q5,q6,q7,-⟩:=Ac a9;obtain⟨m0,m1,m2,m3,m4,m5,m6,m7,-⟩:=Ac ae;have au:Below w.heap.size w w5:=ag.trans ((a3.trans (a5.mono ai)).mono (by omega));have bl:=((a3.trans (a5.mono ai)).block _ (by omega)).trans cl;have hO:=Ac4 o y2 w5;have cy:w2.heap.size<w5.heap.size:=by omega
 generalize hop:Ck.operated o y2=op at *;obtain⟨aq,bb⟩:=op;have ak:Hid (R=Ck.bind (Ck.need (bb && y2 == y4) p 35) λ _=>.inl (.mk k o 0 [] 0 aq [.mk k2 o2 n2 t2 s2 y2 a6,.mk k4 o4 n4 t4 s4 y4 a7])):=by
  show _=_;rw[am.out];show Ck.bind (Ck.need ((Ck.operated o y2).2 && y2 == y4) p 35) (λ _=>Sum.inl (CE.mk k o 0 [] 0 (Ck.operated o y2).1 _))=_;rw[hop]
 clear hP am hop bc;go_wp2_with fail;refine hO.mono ?_;rintro e w6 ⟨rfl,bw⟩;obtain rfl:=bw.symm;clear hO b9 cf z0 z1 z2 z3 z4 z5 z6 z7 f0 f1 f2 f3 f4 f5 f6 f7;cases hq:(bb && y2 == y4)
 .have a0:Hid (Ae w R (.panicked (Af p 35)) w5):=by rw[ak.out,hq];exact⟨rfl,au⟩
  have hN:=Ao p 35 w5;clear ak al bg av az;cases bb
  .go_wp2_with fail
   refine hN.mono ?_;rintro e w7 ⟨rfl,rfl⟩;exact⟨rfl,a0.out⟩
  .have ca:(y2 == y4)=false:=by simpa using hq
   clear hq;go_wp2_with fail;refine hN.mono ?_;rintro e w7 ⟨rfl,rfl⟩;exact⟨rfl,a0.out⟩
 .obtain⟨rfl,ca⟩:=Bool.and_eq_true_iff.1 hq;have hN:=Av p 35 w5;rw[hq] at ak;clear hq;go_wp2_with fail;refine hN.mono ?_;rintro e w7 ⟨rfl,co⟩;obtain rfl:=co.symm;clear hN;obtain⟨w8,bq⟩:∃w8,w5.alloc (.cells #[iv k2,iv o2,iv n2,strV t2,iv s2,strV y2,.slice a2 a6.length c2,iv 0,iv k4,iv o4,iv n4,strV t4,iv s4,strV y4,.slice a4 a7.length c4,iv 0] 48)=w8:=⟨_,rfl⟩;have ah:Below w5.heap.size w5 w8:=by rw[<-bq];exact (AF _ _).alloc (AD _) _
  have b5:=(ah.block _ (by omega)).trans bl;obtain⟨r0,r1,r2,r3,r4,r5,r6,r7,t0,t1,cp,t3,cv,t5,t6,t7⟩:=Ac b5;have c7:w0.heap.size<w8.heap.size:=(AB b5).1;have a0:Ae w R (.returned (.agg #[iv k,iv o,iv 0,sE,iv 0,strV aq,sL w5.heap.size 0 2 2,iv 0])) (setc8 w8 w0.heap.size (iv k) (iv o) (iv 0) sE (iv 0) (strV aq) (sL w5.heap.size 0 2 2) (iv 0)):=by
   rw[ak.out];have b6:∀{n:Nat} {wx:World},w0.heap.size<n->wx.heap.size<=w8.heap.size->(∀j,n<=j->j<wx.heap.size->w8.heap[j]?=wx.heap[j]?)->Since (From n) wx (setc8 w8 w0.heap.size (iv k) (iv o) (iv 0) sE (iv 0) (strV aq) (sL w5.heap.size 0 2 2) (iv 0)):=λ {n wx} hn h1 h2=>⟨by rw[A1];exact h1,λ j h3 h4=>by rw[A0 (by have:n<=j:=h3;omega)];exact h2 j h3 h4⟩
   have aj:∀{n:Nat} {wx:World},w.heap.size<=n->∀j,From n j->j<wx.heap.size->From w.heap.size j:=λ {n wx} hn j hj _=>AP hn hj
   have ct:=ah.size;have bo:Below w2.heap.size w2 w8:=ba.trans (a5.trans (ah.mono a5.size) |>.mono ba.size);have br:Below w4.heap.size w4 w8:=bf.trans (ah.mono bf.size);have bi:=b6 (n:=w1.heap.size) (wx:=w2) (by omega) bo.size (λ j _ hj=>bo.block j hj);have bu:=b6 (n:=w3.heap.size) (wx:=w4) (by omega) br.size (λ j _ hj=>br.block j hj);refine⟨⟨_,_,rfl,?_,Aq6 (C1 ((al.since bi).base' (aj (by omega))) ((bg.since bi).base (aj (by omega)))) (C1 ((av.since bu).base' (aj (by omega))) ((az.since bu).base (aj (by omega))))⟩,Ap (au.trans (ah.mono (by have:=au.size;omega))) (by omega) _ _ _ _ _ _ _ _⟩;have c6:=b6 (n:=w5.heap.size) (wx:=w8) (by omega) (AD _) (λ j _ hj=>rfl);have af:SlRow (From w5.heap.size) w8 8 (sL w5.heap.size 0 2 2) 2 [iv k2,iv o2,iv n2,strV t2,iv s2,strV y2,.slice a2 a6.length c2,iv 0,iv k4,iv o4,iv n4,strV t4,iv s4,strV y4,.slice a4 a7.length c4,iv 0]:=by rw[<-bq];exact K5 (AD _)
   exact (af.since c6).base' (aj (by have:=au.size;omega))
  clear ak al bg av az b5 bl a9 ad ae;go_wp2_with fail;exact bodyPost_ret (by simp[results,results197,go_sem,c7,r0,r1,r2,r3,r4,r5,r6,r7]) rfl a0
theorem Ne{x:Px.Ex}(hE:EOk x){k o n:Nat}{t:AQ}{c:Ck.Cx}{B:AS}{row:AR}(hc:CkAt w b mb c)(ay:CxOk c)(hr:SlRow B w 8 sl 1 row)(ha:Aj B w [x] row)(ty:AQ) :
  AA 196 #[pt b 0,.agg (exA k o n t sl p),strV ty] w λ e w'=>Ae w (Ck.unary k ty (Ck.cEs c [x])) e w':=by
 obtain⟨w0,w1,b5,b4,l0,l1,a8,b7,b6⟩:=Az w (iv k) (iv o) (iv n) (strV t) (iv 0) sE sl (iv p);have am:=hr.since (Since.of_below a8);have ak:=ha.since (Since.of_below a8);have av:=hc.keep a8;obtain⟨g,og,cap,ka,oa,na,ta,aa,pa,b9,b0,rfl,aw,hg,rfl,⟨u0,u1,u2,u3,u4,u5,u6,u7⟩,ad,ar⟩:=Bd (args:=[x]) am ak rfl;have hA:=λ w' (hb:Below w1.heap.size w1 w')=>B4 hE rfl (av.keep hb) ay (ad.since (Since.of_below hb)) (ar.since (Since.of_below hb)) ty
 obtain⟨ag,a6,rfl,-,-⟩:=ad.val;obtain⟨d0,d1,d2,d3,d4,d5,d6,d7,-⟩:=Ac b7;obtain⟨R,HR⟩:∃R,Hid (Ck.unary k ty (Ck.cEs c [.mk ka oa na ta aa pa])=R):=⟨_,rfl⟩;rw[HR.out];have ah:Hid (R=Ck.bind (Ck.asked (Ck.cE c (.mk ka oa na ta aa pa),pa) ty) λ x=>.inl (.mk k 0 0 [] 0 ty [x])):=by
  show _=_;rw[<-HR.out];simp only[Ck.unary,Ck.cEs,Ck.arg,getD_cons_zero]
 clear HR;generalize Ck.asked (Ck.cE c (.mk ka oa na ta aa pa),pa) ty=C at *;have ba:([Px.Ex.mk ka oa na ta aa pa]:List Px.Ex).length=1:=rfl;clear hc hr ha hE am ak av ad ar;simp only[length_cons,length_nil,Nat.zero_add] at *;go_enter func196,ntmps196;go_wp2_with fail;refine Vv.wpE_begin (S:=λ w'=>w'.cell? ⟨w.heap.size,0,none⟩=some (iv k)/\w'.cell? ⟨w.heap.size,6,none⟩=some (sL g og 1 cap)/\w'.cell? ⟨g,og,none⟩=some (iv ka)/\w'.cell? ⟨g,og+1,none⟩=some (iv oa)/\w'.cell? ⟨g,og+2,none⟩=some (iv na)/\w'.cell? ⟨g,og+3,none⟩=some (strV ta)/\w'.cell? ⟨g,og+4,none⟩=some (iv 0)/\w'.cell? ⟨g,og+5,none⟩=some sE/\w'.cell? ⟨g,og+6,none⟩=some (.slice ag aa.length a6)/\w'.cell? ⟨g,og+7,none⟩=some (iv pa)) (N:=λ j=>decide (j<12)) (by kernel_rfl) ?_;have hS:∀w',Below w1.heap.size w1 w'->(w'.cell? ⟨w.heap.size,0,none⟩=some (iv k)/\w'.cell? ⟨w.heap.size,6,none⟩=some (sL g og 1 cap)/\w'.cell? ⟨g,og,none⟩=some (iv ka)/\w'.cell? ⟨g,og+1,none⟩=some (iv oa)/\w'.cell? ⟨g,og+2,none⟩=some (iv na)/\w'.cell? ⟨g,og+3,none⟩=some (strV ta)/\w'.cell? ⟨g,og+4,none⟩=some (iv 0)/\w'.cell? ⟨g,og+5,none⟩=some sE/\w'.cell? ⟨g,og+6,none⟩=some (.slice ag aa.length a6)/\w'.cell? ⟨g,og+7,none⟩=some (iv pa)):=λ w' hb=>by
  obtain⟨bc,-⟩:=bcell hb;exact⟨(bc _ _ (by omega)).trans d0,(bc _ _ (by omega)).trans d6,(bc _ _ hg).trans u0,(bc _ _ hg).trans u1,(bc _ _ hg).trans u2,(bc _ _ hg).trans u3,(bc _ _ hg).trans u4,(bc _ _ hg).trans u5,(bc _ _ hg).trans u6,(bc _ _ hg).trans u7⟩
 have a3:=hS w1.drew (AF _ _).drew;refine Aa 7 [12] 0 (pt w.heap.size 0) a3 ?_
 try simp only[aP]
 refine Aa 8 [12] 1 (iv k) a3 ?_
 try simp only[aP]
 refine Aa 9 [12] 2 (strV ty) a3 ?_
 try simp only[aP]
 refine Aa 10 [12] 3 (pt b 0) a3 ?_
 try simp only[aP]
 refine Aa 11 [12] 4 (pt w.heap.size 6) a3 ?_
 try simp only[aP]
 refine Aa 12 [12] 5 (sL g og 1 cap) a3 ?_
 try simp only[aP]
 refine Aa 13 [12] 6 (pt g og) a3 ?_
 try simp only[aP]
 refine Aa 14 [12] 7 (.agg (exA ka oa na ta (.slice ag aa.length a6) pa)) a3 ?_
 try simp only[aP]
 refine Aa 15 [12] 8 (strV ty) a3 ?_
 try simp only[aP]
 refine Ah 9 λ K hK=>?_
 go_simp;refine (hA _ (AF _ _).drew).mono ?_;rintro e w2 hP;replace hP:Ae w1 C e w2:=hP.of (AF _ _).drew;clear hA b5 b4 d0 d1 d2 d3 d4 d5 d6 d7 u0 u1 u2 u3 u4 u5 u6 u7 a3;rcases C with⟨k2,o2,n2,t2,s2,y2,a5⟩ | ⟨a,er⟩
 rotate_left
 .obtain⟨hm,a9⟩:=hP;obtain rfl:=hm;have a0:Ae w R (.panicked (Af a er)) w2:=by rw[ah.out];exact⟨rfl,a8.trans (a9.mono (by omega))⟩
  exact⟨rfl,a0⟩
 obtain⟨sl2,row2,rfl,ab,au,a9⟩:=hP.inl;obtain⟨a2,c2,rfl,-,-⟩:=ab.val;have ax:=a9.size;refine hK _ _ (λ _=>hS w2 a9) ?_;clear hK K hP
 try simp only[aP]
 obtain⟨w8,aj⟩:∃w8,w2.alloc (.cells #[iv k2,iv o2,iv n2,strV t2,iv s2,strV y2,.slice a2 a5.length c2,iv 0] 48)=w8:=⟨_,rfl⟩;have ae:Below w2.heap.size w2 w8:=by rw[<-aj];exact (AF _ _).alloc (AD _) _
 have a4:Below w1.heap.size w1 w8:=a9.trans (ae.mono ax);refine Ah 10 λ K hK=>?_
 go_simp;refine hK _ _ (λ _=>hS w8 a4) ?_;clear hK K
 try simp only[aP]
 refine Ah 11 λ K hK=>?_
 go_simp;refine hK _ _ (λ _=>hS w8 a4) ?_;clear hK K
 try simp only[aP]
 have af:=(a4.block _ (by omega)).trans b6;obtain⟨r0,r1,r2,r3,r4,r5,r6,r7,t0,t1,b8,t3,bb,t5,t6,t7⟩:=Ac af;have b3:w0.heap.size<w8.heap.size:=(AB af).1;have a0:Ae w R (.returned (.agg #[iv k,iv 0,iv 0,sE,iv 0,strV ty,sL w2.heap.size 0 1 1,iv 0])) (setc8 w8 w0.heap.size (iv k) (iv 0) (iv 0) sE (iv 0) (strV ty) (sL w2.heap.size 0 1 1) (iv 0)):=by
  rw[ah.out];have aq:∀{n:Nat} {wx:World},w0.heap.size<n->wx.heap.size<=w8.heap.size->(∀j,n<=j->j<wx.heap.size->w8.heap[j]?=wx.heap[j]?)->Since (From n) wx (setc8 w8 w0.heap.size (iv k) (iv 0) (iv 0) sE (iv 0) (strV ty) (sL w2.heap.size 0 1 1) (iv 0)):=λ {n wx} hn h1 h2=>⟨by rw[A1];exact h1,λ j h3 h4=>by rw[A0 (by have:n<=j:=h3;omega)];exact h2 j h3 h4⟩
  have ai:∀{n:Nat} {wx:World},w.heap.size<=n->∀j,From n j->j<wx.heap.size->From w.heap.size j:=λ {n wx} hn j hj _=>AP hn hj
  have al:=aq (n:=w1.heap.size) (wx:=w2) (by omega) ae.size (λ j _ hj=>ae.block j hj);refine⟨⟨_,_,rfl,?_,Jk (C1 ((ab.since al).base' (ai (by omega))) ((au.since al).base (ai (by omega))))⟩,Ap (a8.trans (a4.mono (by omega))) (by omega) _ _ _ _ _ _ _ _⟩;have az:=aq (n:=w2.heap.size) (wx:=w8) (by omega) (AD _) (λ j _ hj=>rfl);have a7:SlRow (From w2.heap.size) w8 8 (sL w2.heap.size 0 1 1) 1 [iv k2,iv o2,iv n2,strV t2,iv s2,strV y2,.slice a2 a5.length c2,iv 0]:=by rw[<-aj];exact D7 (AD _)
  exact (a7.since az).base' (ai (by omega))
 refine Ah 12 λ K hK=>?_
 go_simp;refine hK _ _ (λ h=>by cases h) ?_;clear hK K
 try simp only[aP]
 refine Vv.wpE_done (by kernel_rfl) ?_;clear ah ab au af hS aj;simp only[Exit.inBlock,Exit.then];refine ‹∀(a:Act) (w:World),_->_› _ _ ?_;go_wp2_with fail;exact bodyPost_ret (by simp[results,results196,go_sem,b3,r0,r1,r2,r3,r4,r5,r6,r7]) rfl a0
end
section
open Ck (CE CS CF CP Mng)
theorem An{α β:Type}{r:Ck.R α}{f:α->Ck.R β}{y:β}(h:Ck.bind r f=.inl y):∃x,r=.inl x/\f x=.inl y:=by
 rcases r with x | e
 .exact⟨x,rfl,h⟩
 .cases h
theorem Vq(t:AQ):(Vv.elT t).1.length<=100:=by
 unfold Vv.elT;split
 .rename_i T h;have h2:=((Vv.tyOf_iff _ _).1 h).2;have h3:=(Vv.tyT_len T).2;simp only[Vv.Ty.dp] at h2;show (Vv.tyT T).length<=100;omega
 .simp
theorem Vr(t:AQ):(Vv.mpT t).1.length<=100/\(Vv.mpT t).2.1.length<=100:=by
 unfold Vv.mpT;split
 .rename_i k T h;have h2:=((Vv.tyOf_iff _ _).1 h).2;have h3:=(Vv.tyT_len T).2;simp only[Vv.Ty.dp] at h2;refine⟨?_,?_⟩
  .show (Vv.keyT k).length<=100;rw[<-Vv.keyTy_T];have:=(Vv.tyT_len (Vv.keyTy k)).2;rw[Vv.keyTy_dp] at this;omega
  .show (Vv.tyT T).length<=100;omega
 .simp
theorem within_len(t:AQ):(Ck.within t).1.length<=100/\(Ck.within t).2.1.length<=100:=by
 unfold Ck.within;split
 .exact⟨by simp[Ck.tInt],Vq t⟩
 .exact Vr t
theorem Vs{k:Nat}{t:AQ}(ht:t.length<=1000):(Ck.sig k t).1.length<=1000/\(Ck.sig k t).2.1.length<=1000:=by
 have h1:=Vq t;have h2:=Vr t;unfold Ck.sig;split
 .simp[Ck.tInt]
 .split
  .simp[Ck.tBool];omega
  .split
   .exact⟨ht,by show (Vv.elT t).1.length<=1000;omega⟩
   .simp[Ck.tText]
theorem Ac5{o:Nat}{t:AQ}(ht:t.length<=1000):(Ck.operated o t).1.length<=1000:=by
 unfold Ck.operated;split
 .exact ht
 .split
  .simp[Ck.tBool]
  .split
   .simp[Ck.tBool]
   .split
    .exact ht
    .exact ht
theorem K6:∀(env:Ck.Env) (x:AQ),(∀y∈env,y.2.type.length<=1000)->(Ck.look env x).type.length<=1000
 | [],x,h=>by simp[Ck.look,Ck.Mng.no]
 |(n,m) :: r,x,h=>by
  rw[Ck.look];split
  .exact h (n,m) (AC ..)
  .exact K6 r x (λ y hy=>h y (AH _ hy))
abbrev Aq7(qs:List Ck.Q):Prop:=∀q∈qs,∀e,q.1=.inl e->e.type.length<=1000
theorem Vt{qs:List Ck.Q}(h:Aq7 qs){e:CE}(he:(Ck.arg qs i).1=.inl e):e.type.length<=1000:=by
 unfold Ck.arg at he;rw[getD_eq_getElem?_getD] at he;rcases hq:qs[i]? with _ | q
 .rw[hq] at he;cases he
 .rw[hq] at he;exact h q (mem_of_getElem? hq) e he
theorem Ac6{c:Ck.Cx}(hc:CxOk c){k o n:Nat}{t:AQ}{qs:List Ck.Q}(hq:Aq7 qs){e:CE}(h:Ck.comb c k o n t p qs=.inl e):e.type.length<=1000:=by
 unfold Ck.comb at h;split at h
 .simp only[Sum.inl.injEq] at h;subst h;simp[CE.type,Ck.tInt]
 split at h
 .simp only[Sum.inl.injEq] at h;subst h;simp[CE.type,Ck.tBool]
 split at h
 .simp only[Sum.inl.injEq] at h;subst h;simp[CE.type,Ck.tText]
 split at h
 .unfold Ck.name at h;obtain⟨u,h1,h2⟩:=An h;simp only[Sum.inl.injEq] at h2;subst h2;exact K6 _ _ hc.env
 split at h
 .split at h
  .unfold Ck.call at h;obtain⟨u,h1,h⟩:=An h;obtain⟨u,h2,h⟩:=An h;obtain⟨u,h3,h⟩:=An h;obtain⟨xs,h4,h⟩:=An h;simp only[Sum.inl.injEq] at h;subst h;show (c.heads.getD _ _).result.length<=1000;rw[getD_eq_getElem?_getD];rcases hh:c.heads[(Ck.look c.env t).slot]? with _ | hd
   .simp
   .exact hc.res hd (mem_of_getElem? hh)
  .unfold Ck.builtin at h;obtain⟨u,h1,h⟩:=An h;obtain⟨x,h2,h⟩:=An h;obtain⟨u,h3,h⟩:=An h;have hx:=Vt hq h2;split at h
   .obtain⟨y,h4,h⟩:=An h;simp only[Sum.inl.injEq] at h;subst h;exact (Vs hx).1
   .simp only[Sum.inl.injEq] at h;subst h;exact (Vs hx).1
 split at h
 .unfold Ck.at_ at h;obtain⟨x,h2,h⟩:=An h;obtain⟨u,h3,h⟩:=An h;obtain⟨y,h4,h⟩:=An h;simp only[Sum.inl.injEq] at h;subst h;have:=(within_len x.type).2;show (Ck.within x.type).2.1.length<=1000;omega
 split at h
 .unfold Ck.unary at h;obtain⟨x,h2,h⟩:=An h;simp only[Sum.inl.injEq] at h;subst h;simp[CE.type,Ck.tInt]
 split at h
 .unfold Ck.unary at h;obtain⟨x,h2,h⟩:=An h;simp only[Sum.inl.injEq] at h;subst h;simp[CE.type,Ck.tBool]
 .unfold Ck.binary at h;obtain⟨x,h2,h⟩:=An h;obtain⟨y,h3,h⟩:=An h;obtain⟨u,h4,h⟩:=An h;simp only[Sum.inl.injEq] at h;subst h;exact Ac5 (Vt hq h2)
mutual
theorem G5{c:Ck.Cx}(hc:CxOk c):∀(x:Px.Ex) (e:CE),Ck.cE c x=.inl e->e.type.length<=1000
 | .mk k o n t args p,e,h=>by
  rw[Ck.cE] at h;exact Ac6 hc (Vu hc args) h
theorem Vu{c:Ck.Cx}(hc:CxOk c):∀l:List Px.Ex,Aq7 (Ck.cEs c l)
 | []=>by intro q hq;rw[Ck.cEs] at hq;cases hq
 | .mk k o n t args p :: r=>by
  intro q hq e he;rw[Ck.cEs] at hq;rcases mem_cons.1 hq with rfl | hq
  .exact G5 hc (.mk k o n t args p) e he
  .exact Vu hc r q hq e he
end
end
section
open Go.RowKit
open Ck (CE CS CF CP Mng)
attribute [local go_sem ↓] Go.wp_at_zero Go.wp_at_succ
theorem Aq8{x y:Px.Ex}(hE:EOk x)(bo:EOk y){o n:Nat}{t:AQ}{c:Ck.Cx}{B:AS}{row:AR}(hc:CkAt w b mb c)(b4:CxOk c)(hr:SlRow B w 8 sl 2 row)(ha:Aj B w [x,y] row) :
  AA 195 #[pt b 0,.agg (exA 12 o n t sl p)] w λ e w'=>Ae w (Ck.at_ p (Ck.cEs c [x,y])) e w':=by
 obtain⟨k,Hk⟩:∃k:Nat,Hid (12=k):=⟨_,rfl⟩;rw[Hk.out];obtain⟨w0,w1,cf,cd,l0,l1,ag,cj,ci⟩:=Az w (iv k) (iv o) (iv n) (strV t) (iv 0) sE sl (iv p);have b3:=hr.since (Since.of_below ag);have ax:=ha.since (Since.of_below ag);have bk:=hc.keep ag;obtain⟨g,og,cap,ka,oa,na,ta,aa,pa,cc,ba,rfl,b0,hg,rfl,⟨u0,u1,u2,u3,u4,u5,u6,u7⟩,az,bq⟩:=Bd (args:=[x,y]) b3 ax rfl;obtain⟨g',cq,c0,kb,ob,nb,tb,ab,pb,cw,c8,e,-,-,rfl,⟨v0,v1,v2,v3,v4,v5,v6,v7⟩,bi,bs⟩:=D6 (args:=[_,y]) b3 ax rfl;simp only[Value.slice.injEq,Option.some.injEq,Addr.mk.injEq,and_true] at e;obtain⟨⟨rfl,rfl⟩,-,rfl⟩:=e;simp only[length_cons,length_nil,Nat.zero_add] at b0;have hC:=hE ka oa na ta aa pa rfl w1 b mb c B cc ba bk b4 az bq;have hA:=λ w' (hb:Below w1.heap.size w1 w') ty=>B4 bo rfl (bk.keep hb) b4 (bi.since (Since.of_below hb)) (bs.since (Since.of_below hb)) ty
 obtain⟨cr,bv,rfl,-,-⟩:=az.val;obtain⟨bg,ae,rfl,-,-⟩:=bi.val;obtain⟨d0,d1,d2,d3,d4,d5,d6,d7,-⟩:=Ac cj;have aj:=G5 b4 (.mk ka oa na ta aa pa);obtain⟨R,HR⟩:∃R,Hid (Ck.at_ p (Ck.cEs c [.mk ka oa na ta aa pa,.mk kb ob nb tb ab pb])=R):=⟨_,rfl⟩;rw[HR.out];have b9:Hid (R=Ck.bind (Ck.cE c (.mk ka oa na ta aa pa)) λ x=>Ck.bind (Ck.need (Ck.within x.type).2.2 p 35) λ _=>Ck.bind (Ck.asked (Ck.cE c (.mk kb ob nb tb ab pb),pb) (Ck.within x.type).1) λ y=>.inl (.mk k 0 0 [] 0 (Ck.within x.type).2.1 [x,y])):=by
  show _=_;rw[<-HR.out,<-Hk.out];simp only[Ck.at_,Ck.cEs,Ck.arg,getD_cons_zero,getD_cons_succ]
 clear HR Hk;generalize Ck.cE c (.mk ka oa na ta aa pa)=C at *;generalize Ck.cE c (.mk kb ob nb tb ab pb)=C2 at *;have cu:([Px.Ex.mk ka oa na ta aa pa,.mk kb ob nb tb ab pb]:List Px.Ex).length=2:=rfl;have i0:(0:Int)<2:=by omega
 clear hc hr ha hE bo b3 ax bk az bq bi bs;simp only[length_cons,length_nil,Nat.zero_add] at *;go_enter func195,ntmps195;go_wp2_with fail;refine hC.mono ?_;rintro e w2 hP;clear hC cf cd;rcases C with⟨k2,o2,n2,t2,s2,y2,a0⟩ | ⟨a,er⟩
 rotate_left
 .obtain⟨hm,aw⟩:=hP;obtain rfl:=hm;have a3:Ae w R (.panicked (Af a er)) w2:=by rw[b9.out];exact⟨rfl,ag.trans (aw.mono (by omega))⟩
  exact⟨rfl,a3⟩
 obtain⟨sl2,row2,rfl,au,bj,aw⟩:=hP.inl;have c3:y2.length<=1000:=aj _ rfl;obtain⟨wz,w3,ca,cg,bb,bu,bw,cp,aq,ak⟩:=Bs w2 (iv k2) (iv o2) (iv n2) (strV t2) (iv s2) (strV y2) sl2 (iv 0);obtain⟨a2,c2,rfl,-,-⟩:=au.val;have bx:=aw.size;have lz:w2.heap.size<wz.heap.size:=by omega
 have l3:w2.heap.size<w3.heap.size:=by omega
 clear bu bw;obtain⟨z0,z1,z2,z3,z4,z5,z6,z7,f0,f1,f2,f3,f4,f5,f6,f7⟩:=Ac ak;obtain⟨q0,q1,q2,q3,q4,q5,q6,q7,-⟩:=Ac aq;have af:Below w1.heap.size w1 w3:=aw.trans (bb.mono bx);have ay:=G4 y2 (by omega) w3;have a9:Hid (R=Ck.bind (Ck.need (Ck.within y2).2.2 p 35) λ _=>Ck.bind (Ck.asked (C2,pb) (Ck.within y2).1) λ y=>.inl (.mk k 0 0 [] 0 (Ck.within y2).2.1 [.mk k2 o2 n2 t2 s2 y2 a0,y])):=b9.out;generalize Ck.within y2=wi at *;obtain⟨av,am,ch⟩:=wi;simp only at a9 ay;clear u0 u1 u2 u3 u4 u5 u6 u7 hP b9 aj c3;go_wp2_with fail;refine ay.mono ?_;rintro e w4 ⟨rfl,ah⟩;clear ay ca cg z0 z1 z2 z3 z4 z5 z6 z7 f0 f1 f2 f3 f4 f5 f6 f7;have a5:Below w1.heap.size w1 w4:=af.trans (ah.mono af.size);have c7:=af.size;have cv:=ah.size;obtain⟨bc,-⟩:=bcell a5;have cm:=(bc w.heap.size 7 (by omega)).trans d7;have b8:Below w.heap.size w w4:=ag.trans (a5.mono (by omega));cases ch
 .have a3:Hid (Ae w R (.panicked (Af p 35)) w4):=by rw[a9.out];exact⟨rfl,b8⟩
  have hN:=Ao p 35 w4;clear a9 au bj;go_wp2_with fail;refine hN.mono ?_;rintro e w7 ⟨rfl,rfl⟩;exact⟨rfl,a3.out⟩
 have hN:=Av p 35 w4;replace a9:Hid (R=Ck.bind (Ck.asked (C2,pb) av) λ y=>.inl (.mk k 0 0 [] 0 am [.mk k2 o2 n2 t2 s2 y2 a0,y])):=a9.out;go_wp2_with fail;refine hN.mono ?_;rintro e w7 ⟨rfl,cl⟩;obtain rfl:=cl.symm;clear hN;have hS:∀w',Below w4.heap.size w4 w'->(w'.cell? ⟨w.heap.size,0,none⟩=some (iv k)/\w'.cell? ⟨w.heap.size,6,none⟩=some (sL g og 2 cap)/\w'.cell? ⟨w2.heap.size,0,none⟩=some (iv k2)/\w'.cell? ⟨w2.heap.size,1,none⟩=some (iv o2)/\w'.cell? ⟨w2.heap.size,2,none⟩=some (iv n2)/\w'.cell? ⟨w2.heap.size,3,none⟩=some (strV t2)/\w'.cell? ⟨w2.heap.size,4,none⟩=some (iv s2)/\w'.cell? ⟨w2.heap.size,5,none⟩=some (strV y2)/\w'.cell? ⟨w2.heap.size,6,none⟩=some (.slice a2 a0.length c2)/\w'.cell? ⟨w2.heap.size,7,none⟩=some (iv 0)/\w'.cell? ⟨g,og+8,none⟩=some (iv kb)/\w'.cell? ⟨g,og+9,none⟩=some (iv ob)/\w'.cell? ⟨g,og+10,none⟩=some (iv nb)/\w'.cell? ⟨g,og+11,none⟩=some (strV tb)/\w'.cell? ⟨g,og+12,none⟩=some (iv 0)/\w'.cell? ⟨g,og+13,none⟩=some sE/\w'.cell? ⟨g,og+14,none⟩=some (.slice bg ab.length ae)/\w'.cell? ⟨g,og+15,none⟩=some (iv pb)):=λ w' hb=>by
  obtain⟨bd,-⟩:=bcell (a5.trans (hb.mono a5.size));obtain⟨be,-⟩:=bcell (ah.trans (hb.mono ah.size));exact⟨(bd _ _ (by omega)).trans d0,(bd _ _ (by omega)).trans d6,(be _ _ l3).trans q0,(be _ _ l3).trans q1,(be _ _ l3).trans q2,(be _ _ l3).trans q3,(be _ _ l3).trans q4,(be _ _ l3).trans q5,(be _ _ l3).trans q6,(be _ _ l3).trans q7,(bd _ _ hg).trans v0,(bd _ _ hg).trans v1,(bd _ _ hg).trans v2,(bd _ _ hg).trans v3,(bd _ _ hg).trans v4,(bd _ _ hg).trans v5,(bd _ _ hg).trans v6,(bd _ _ hg).trans v7⟩
 have br:=hA w4.drew a5.drew av;generalize Ck.asked (C2,pb) av=D at *;go_wp2_with fail;refine Vv.wpE_begin (S:=λ w'=>w'.cell? ⟨w.heap.size,0,none⟩=some (iv k)/\w'.cell? ⟨w.heap.size,6,none⟩=some (sL g og 2 cap)/\w'.cell? ⟨w2.heap.size,0,none⟩=some (iv k2)/\w'.cell? ⟨w2.heap.size,1,none⟩=some (iv o2)/\w'.cell? ⟨w2.heap.size,2,none⟩=some (iv n2)/\w'.cell? ⟨w2.heap.size,3,none⟩=some (strV t2)/\w'.cell? ⟨w2.heap.size,4,none⟩=some (iv s2)/\w'.cell? ⟨w2.heap.size,5,none⟩=some (strV y2)/\w'.cell? ⟨w2.heap.size,6,none⟩=some (.slice a2 a0.length c2)/\w'.cell? ⟨w2.heap.size,7,none⟩=some (iv 0)/\w'.cell? ⟨g,og+8,none⟩=some (iv kb)/\w'.cell? ⟨g,og+9,none⟩=some (iv ob)/\w'.cell? ⟨g,og+10,none⟩=some (iv nb)/\w'.cell? ⟨g,og+11,none⟩=some (strV tb)/\w'.cell? ⟨g,og+12,none⟩=some (iv 0)/\w'.cell? ⟨g,og+13,none⟩=some sE/\w'.cell? ⟨g,og+14,none⟩=some (.slice bg ab.length ae)/\w'.cell? ⟨g,og+15,none⟩=some (iv pb)) (N:=λ j=>decide (j<13)) (by kernel_rfl) ?_;have a6:=hS w4.drew (AF _ _).drew;refine Aa 26 [13] 0 (pt w.heap.size 0) a6 ?_
 try simp only[aP]
 refine Aa 27 [13] 1 (iv k) a6 ?_
 try simp only[aP]
 refine Aa 28 [13] 2 (strV am) a6 ?_
 try simp only[aP]
 refine Aa 29 [13] 3 (.agg #[iv k2,iv o2,iv n2,strV t2,iv s2,strV y2,.slice a2 a0.length c2,iv 0]) a6 ?_
 try simp only[aP]
 refine Aa 30 [13] 4 (pt b 0) a6 ?_
 try simp only[aP]
 refine Aa 31 [13] 5 (pt w.heap.size 6) a6 ?_
 try simp only[aP]
 refine Aa 32 [13] 6 (sL g og 2 cap) a6 ?_
 try simp only[aP]
 refine Aa 33 [13] 7 (pt g (og+8)) a6 ?_
 try simp only[aP]
 refine Aa 34 [13] 8 (.agg (exA kb ob nb tb (.slice bg ab.length ae) pb)) a6 ?_
 try simp only[aP]
 refine Aa 35 [13] 9 (strV av) a6 ?_
 try simp only[aP]
 refine Ah 10 λ K hK=>?_
 go_simp;refine br.mono ?_;rintro e w5 hP;replace hP:Ae w4 D e w5:=hP.of (AF _ _).drew;clear br hA d0 d1 d2 d3 d4 d5 d6 d7 cm v0 v1 v2 v3 v4 v5 v6 v7 q0 q1 q2 q3 q4 q5 q6 q7 bc a6;rcases D with⟨k4,o4,n4,t4,s4,y4,a8⟩ | ⟨a,er⟩
 rotate_left
 .obtain⟨hm,ar⟩:=hP;obtain rfl:=hm;have a3:Ae w R (.panicked (Af a er)) w5:=by rw[a9.out];exact⟨rfl,b8.trans (ar.mono b8.size)⟩
  exact⟨rfl,a3⟩
 obtain⟨ct,ce,rfl,bh,bn,ar⟩:=hP.inl;obtain⟨a4,c4,rfl,-,-⟩:=bh.val;have c1:=ar.size;refine hK _ _ (λ _=>hS w5 ar) ?_;clear hK K hP
 try simp only[aP]
 obtain⟨w8,bf⟩:∃w8,w5.alloc (.cells #[iv k2,iv o2,iv n2,strV t2,iv s2,strV y2,.slice a2 a0.length c2,iv 0,iv k4,iv o4,iv n4,strV t4,iv s4,strV y4,.slice a4 a8.length c4,iv 0] 48)=w8:=⟨_,rfl⟩;have b5:Below w5.heap.size w5 w8:=by rw[<-bf];exact (AF _ _).alloc (AD _) _
 have a7:Below w4.heap.size w4 w8:=ar.trans (b5.mono c1);refine Ah 11 λ K hK=>?_
 go_simp;refine hK _ _ (λ _=>hS w8 a7) ?_;clear hK K
 try simp only[aP]
 refine Ah 12 λ K hK=>?_
 go_simp;refine hK _ _ (λ _=>hS w8 a7) ?_;clear hK K
 try simp only[aP]
 have ai:Below w1.heap.size w1 w8:=a5.trans (a7.mono a5.size);have b6:=(ai.block _ (by omega)).trans ci;obtain⟨r0,r1,r2,r3,r4,r5,r6,r7,t0,t1,co,t3,cy,t5,t6,t7⟩:=Ac b6;have c9:w0.heap.size<w8.heap.size:=(AB b6).1;have c6:=a5.size;have a3:Ae w R (.returned (.agg #[iv k,iv 0,iv 0,sE,iv 0,strV am,sL w5.heap.size 0 2 2,iv 0])) (setc8 w8 w0.heap.size (iv k) (iv 0) (iv 0) sE (iv 0) (strV am) (sL w5.heap.size 0 2 2) (iv 0)):=by
  rw[a9.out];have b7:∀{n:Nat} {wx:World},w0.heap.size<n->wx.heap.size<=w8.heap.size->(∀j,n<=j->j<wx.heap.size->w8.heap[j]?=wx.heap[j]?)->Since (From n) wx (setc8 w8 w0.heap.size (iv k) (iv 0) (iv 0) sE (iv 0) (strV am) (sL w5.heap.size 0 2 2) (iv 0)):=λ {n wx} hn h1 h2=>⟨by rw[A1];exact h1,λ j h3 h4=>by rw[A0 (by have:n<=j:=h3;omega)];exact h2 j h3 h4⟩
  have al:∀{n:Nat} {wx:World},w.heap.size<=n->∀j,From n j->j<wx.heap.size->From w.heap.size j:=λ {n wx} hn j hj _=>AP hn hj
  have bp:Below w2.heap.size w2 w8:=bb.trans ((ah.trans (a7.mono ah.size)).mono bb.size);have bl:=b7 (n:=w1.heap.size) (wx:=w2) (by omega) bp.size (λ j _ hj=>bp.block j hj);have bt:=b7 (n:=w4.heap.size) (wx:=w5) (by omega) b5.size (λ j _ hj=>b5.block j hj);refine⟨⟨_,_,rfl,?_,Aq6 (C1 ((au.since bl).base' (al (by omega))) ((bj.since bl).base (al (by omega)))) (C1 ((bh.since bt).base' (al (by omega))) ((bn.since bt).base (al (by omega))))⟩,Ap (ag.trans (ai.mono (by omega))) (by omega) _ _ _ _ _ _ _ _⟩;have c5:=b7 (n:=w5.heap.size) (wx:=w8) (by omega) (AD _) (λ j _ hj=>rfl);have ad:SlRow (From w5.heap.size) w8 8 (sL w5.heap.size 0 2 2) 2 [iv k2,iv o2,iv n2,strV t2,iv s2,strV y2,.slice a2 a0.length c2,iv 0,iv k4,iv o4,iv n4,strV t4,iv s4,strV y4,.slice a4 a8.length c4,iv 0]:=by rw[<-bf];exact K5 (AD _)
  exact (ad.since c5).base' (al (by omega))
 refine Ah 13 λ K hK=>?_
 go_simp;refine hK _ _ (λ h=>by cases h) ?_;clear hK K
 try simp only[aP]
 refine Vv.wpE_done (by kernel_rfl) ?_;clear a9 au bj bh bn b6 hS bf;simp only[Exit.inBlock,Exit.then];refine ‹∀(a:Act) (w:World),_->_› _ _ ?_;go_wp2_with fail;exact bodyPost_ret (by simp[results,results195,go_sem,c9,r0,r1,r2,r3,r4,r5,r6,r7]) rfl a3
end
end Go.Proofs.YtpckmjfabiallaaGreatDoor
