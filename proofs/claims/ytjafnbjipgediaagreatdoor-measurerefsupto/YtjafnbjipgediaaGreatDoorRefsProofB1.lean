/-
  Parts of the proof.
-/
import Derived.Test.YtjafnbjipgediaaGreatDoorRefsProofB0
namespace Go.Proofs.YtjafnbjipgediaaGreatDoor
open Go Go.RowKit
abbrev bx(b:Nat):Value:=.pointer (some ⟨b,0,none⟩)
theorem sX{w w':World}{b:Nat}(h:∃ es clock,w.heap[b]?=some (.map es clock))(hf:Fr (fun k=>k=b) w w'):CK w w':=
 ⟨hf.size,fun k cur t fr _ hc=>(hf.block k (aB hc) (fun e=>by
  obtain⟨es,clock,hb⟩:=h
  rw [e,hb] at hc
  cases hc)).trans hc⟩
structure TW(GF OF RF GT OT RT MT:Nat)(w:World)(bm bg bo br bp bb:Nat)(c f:Bool):Prop where
 m:w.heap[bm]?=some (.cells #[.bool c,.bool f] 27 (0,0))
 g:w.heap[bg]?=some (.cells #[.func (.func GF) #[] #[bx bp]] GT (0,0))
 o:w.heap[bo]?=some (.cells #[.func (.func OF) #[] #[bx bm,bx bg,bx bo,bx br,bx bp]] OT (0,0))
 r:w.heap[br]?=some (.cells #[.func (.func RF) #[] #[]] RT (0,0))
 p:w.heap[bp]?=some (.cells #[.map (some bb)] MT (0,0))
theorem TW.ck{GF OF RF GT OT RT MT:Nat}{w w':World}{bm bg bo br bp bb:Nat}{c f:Bool}(h:TW GF OF RF GT OT RT MT w bm bg bo br bp bb c f)(hc:CK w w'):TW GF OF RF GT OT RT MT w' bm bg bo br bp bb c f:=
 ⟨hc.same _ _ _ _ (aB h.m) h.m,hc.same _ _ _ _ (aB h.g) h.g,hc.same _ _ _ _ (aB h.o) h.o,hc.same _ _ _ _ (aB h.r) h.r,hc.same _ _ _ _ (aB h.p) h.p⟩
def cL(f:Fl)(c o:Bool)(v:Value)(g:Value):Array Value:=#[.int .i64 f.k,.int .i64 f.n,.int .i64 f.mn,.int .i64 f.mx,.slice f.rq f.rs.length f.rc,.slice f.kq f.kl f.kc,.bool c,.bool o,v,g]
def Wr2(b s:Nat):Nat->Prop:=fun k=>k=b\/k=s
theorem eD{w W wr:World}{b s:Nat}(h:∃ es clock,W.heap[b]?=some (.map es clock))(hs:w.heap.size<=s)(hB:Below w.heap.size w W)(hf:Fr (Wr2 b s) W wr):CK w wr:=
 ⟨Nat.le_trans hB.size hf.size,fun k cur t fr hk hc=>by
  have h1:=(hB.block k hk).trans hc
  refine(hf.block k (aB h1) ?_).trans h1
  rintro (e | e)
  ·obtain⟨es,clock,hb⟩:=h
   rw [e,hb] at h1
   cases h1
  ·omega⟩
theorem pR{w W wr:World}{b s:Nat}(hs:w.heap.size<=s)(hB:Below w.heap.size w W)(hf:Fr (Wr2 b s) W wr):Fr (fun k=>k=b) w wr:=
 ⟨hf.os.trans hB.os,hf.tape.trans hB.tape,hf.output.trans hB.output,Nat.le_trans hB.size hf.size,fun k hk hn=>(hf.block k (Nat.lt_of_lt_of_le hk hB.size) (fun z=>by
  rcases z with e | e
  ·exact hn e
  ·omega)).trans (hB.block k hk)⟩
theorem oR{T:Type}(en:T->Value)(g:Int->T)(k:Int)(x:T):lF (fun i=>en (g i)) k (en x)=fun i=>en (lF g k x i):=by
 funext i
 unfold lF
 split <;> rfl
def bF(W:World)(b:Nat):Nat->List Value->World
 | _,[]=>W
 | o,v :: vs=>bF (W.setCell ⟨b,o,none⟩ v) b (o+1) vs
theorem aU(b:Nat):∀ (vs:List Value) (o:Nat) (W:World),Fr (fun k=>k=b) W (bF W b o vs)
 | [],_,W=>Fr.refl _ W
 | v :: vs,o,W=>((Fr.refl (fun k=>k=b) W).setCell (p:=⟨b,o,none⟩) rfl v).trans (aU b vs (o+1) _)
theorem rI(b:Nat)(t:TypeId):∀ (vs pre:List Value) (W:World) (cs:List Value),W.heap[b]?=some (.cells (pre ++ cs).toArray t (0,0))->cs.length=vs.length->(bF W b pre.length vs).heap[b]?=some (.cells (pre ++ vs).toArray t (0,0))
 | [],pre,W,cs,h,hl=>by
  have:cs=[]:=List.eq_nil_of_length_eq_zero hl
  subst this
  exact h
 | v :: vs,pre,W,[],h,hl=>by simp at hl
 | v :: vs,pre,W,c :: cs,h,hl=>by
  have h1:=aN h pre.length v
  have h2:=rI b t vs (pre ++ [v]) (W.setCell ⟨b,pre.length,none⟩ v) cs (by rw [h1];simp) (by simpa using hl)
  rw [List.length_append,List.length_singleton] at h2
  simpa [bF] using h2
theorem aW{W:World}{b:Nat}{t:TypeId}{cs:Array Value}(h:W.heap[b]?=some (.cells cs t (0,0)))(vs:List Value)(hl:cs.size=vs.length):(bF W b 0 vs).heap[b]?=some (.cells vs.toArray t (0,0)):=
 rI b t vs [] W cs.toList (by simpa using h) (by simpa using hl)
theorem jP{S:Nat->Prop}{a b c:World}{x:Nat}(h:Fr S a b)(k:Fr (fun z=>z=x) b c)(hx:a.heap.size<=x):Fr S a c:=
 ⟨k.os.trans h.os,k.tape.trans h.tape,k.output.trans h.output,Nat.le_trans h.size k.size,fun i hi hs=>(k.block i (Nat.lt_of_lt_of_le hi h.size) (by omega)).trans (h.block i hi hs)⟩
theorem Fr.grownNew{S:Nat->Prop}{a w w':World}{row:Option Nat}(h:Fr S a w)(hg:w.grownBy w' row)(hr:∀ k,row=some k->a.heap.size<=k):Fr S a w':=
 ⟨hg.os.trans h.os,hg.tape.trans h.tape,hg.output.trans h.output,Nat.le_trans h.size hg.size,fun k hk hs=>(hg.block k (Nat.lt_of_lt_of_le hk h.size) (fun e=>by have:=hr k e.symm;omega)).trans (h.block k hk hs)⟩
theorem bU(W:World)(cs:List Value)(t:TypeId):∀ (j:Nat) (u:Value),cs[j]?=some u->(W.alloc (.cells cs.toArray t)).cell? ((⟨W.heap.size,0,none⟩:Addr).add j)=some u:=by
 intro j u h
 have hadd:(⟨W.heap.size,0,none⟩:Addr).add j=⟨W.heap.size,j,none⟩:=by unfold Addr.add;split <;> simp_all
 rw [hadd]
 exact aA (aE W (.cells cs.toArray t)) (i:=j) (by simpa using h)
theorem bG{w:World}{base:Nat}{e:TypeId}{size n b:Nat}{v:Value}{xs:List Value}(h:w.ownsRow base e size v n xs)(hb:∃ es cl,w.heap[b]?=some (.map es cl)):v.ownBlock≠some b:=fun q=>by
 obtain⟨_,_,cur,hc⟩:=aF h q
 obtain⟨es,cl,hm⟩:=hb
 rw [hm] at hc
 cases hc
theorem aJ{w:World}{k:Nat}(o:Obj)(h:k=w.heap.size):(w.alloc o).heap[k]?=some o:=by rw [h];exact aE w o
theorem iU{α:Type}(f:α->List Value)(N:Nat)(hf:∀ x,(f x).length=N):∀ (xs:List α) (i:Nat) (x:α),xs[i]?=some x->∀ j,j < N->(xs.flatMap f)[i * N+j]?=(f x)[j]?
 | [],i,x,h,_,_=>by simp at h
 | y :: ys,0,x,h,j,hj=>by
  simp at h
  subst h
  rw [List.flatMap_cons,Nat.zero_mul,Nat.zero_add,List.getElem?_append_left (by rw [hf];exact hj)]
 | y :: ys,i+1,x,h,j,hj=>by
  rw [List.flatMap_cons,List.getElem?_append_right (by rw [hf,Nat.add_mul];omega),hf,show (i+1) * N+j - N=i * N+j by rw [Nat.add_mul];omega]
  exact iU f N hf ys i x (by simpa using h) j hj
def top(m:Bool):Int:=if m then 1114111 else 255
def bS(m:Bool)(c:Int):Prop:=0<=c/\c<=top m/\(m=true->c < 55296\/57343 < c)
def cS(m:Bool):List (Int × Int):=if m then [(0,55295),(57344,1114111)] else [(0,255)]
theorem iJ(m:Bool):IsC (cS m) (bS m):=by
 cases m with
 | true=>
  refine⟨⟨by simp [cS],by simp [cS]⟩,fun r hr=>?_,fun c=>?_⟩
  ·simp [cS] at hr
   rcases hr with rfl | rfl <;> simp
  ·simp [cS,In,bS,top]
   omega
 | false=>
  refine⟨⟨by simp [cS],by simp [cS]⟩,fun r hr=>?_,fun c=>?_⟩
  ·simp [cS] at hr
   subst hr;simp
  ·simp [cS,In,bS,top]
theorem hP(m:Bool):(cS m).length<=2:=by cases m <;> simp [cS]
theorem aT7(m:Bool)(w:World):Calls Tryz.prog 217 #[.bool m] w fun e w'=>e=.returned (.int .i64 (top m))/\w'=w:=by
 cases m with
 | true=>
  go_enter Tryz.func217,Tryz.ntmps217
  go_wp2
  go_ret
  exact⟨rfl,rfl⟩
 | false=>
  go_enter Tryz.func217,Tryz.ntmps217
  go_wp2
  go_ret
  exact⟨rfl,rfl⟩
theorem aS8(m:Bool)(w:World):Calls Tryz.prog 212 #[.bool m] w fun e w'=>∃ v,e=.returned v/\RR w.heap.size w' v (cS m)/\Below w.heap.size w w':=by
 cases m with
 | true=>
  go_enter Tryz.func212,Tryz.ntmps212
  go_wp2_with (go_at_call 217;refine(aT7 _ _).mono ?_;rintro e w5 ⟨rfl,h5⟩;subst w5)
  go_ret
  exact⟨_,rfl,World.ownsRow_lit w #[.int .i64 0,.int .i64 55295,.int .i64 57344,.int .i64 1114111] 2 lz9 (by unfold maxLen;omega) rfl,bz9⟩
 | false=>
  go_enter Tryz.func212,Tryz.ntmps212
  go_wp2_with (go_at_call 217;refine(aT7 _ _).mono ?_;rintro e w5 ⟨rfl,h5⟩;subst w5)
  go_ret
  exact⟨_,rfl,World.ownsRow_lit w #[.int .i64 0,.int .i64 255] 1 lz9 (by unfold maxLen;omega) rfl,bz9⟩
end Go.Proofs.YtjafnbjipgediaaGreatDoor
