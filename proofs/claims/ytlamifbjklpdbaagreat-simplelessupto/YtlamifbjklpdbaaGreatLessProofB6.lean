/-
  Parts of the proof.
-/
import Derived.Test.YtlamifbjklpdbaaGreatLessProofA0
import Derived.Test.YtlamifbjklpdbaaGreatLessProofB0
import Derived.Test.YtlamifbjklpdbaaGreatLessProofB5
import Derived.Shelf.SlSortCmp.NoneTotal
import Derived.Deep.QuietTactic
import Derived.BigQuiet
set_option linter.unusedSimpArgs false
set_option maxRecDepth 100000
set_option maxHeartbeats 8000000
namespace Go.Proofs.YtlamifbjklpdbaaGreat
open Go Go.RowKit
section
open Go Go.RowKit Go.Shelf
attribute [local go_sem] bU
theorem aA6(x:Int)(w:World):Calls Tryz.prog 117 #[.int .i64 x] w fun e w'=>e=.returned (.bool false)/\w'=w:=by
 have h:(x != x)=false:=by simp
 go_enter Tryz.func117,Tryz.ntmps117
 go_wp2
 go_ret
 exact⟨rfl,rfl⟩
def oB(x y:Int):Int:=if x<y then -1 else if y<x then 1 else 0
theorem aT1(x y:Int)(w:World):Calls Tryz.prog 111 #[.int .i64 x,.int .i64 y] w fun e w'=>e=.returned (.int .i64 (oB x y))/\w'=w:=by
 by_cases h1:x<y
 ·have HE:Hid (oB x y=-1):=if_pos h1
  go_enter Tryz.func111,Tryz.ntmps111
  go_wp2_with (go_at_call 117;refine(aA6 _ _).mono ?_;rintro e w5 ⟨rfl,h5⟩;subst w5)
  go_ret
  exact⟨by rw [HE.out];rfl,rfl⟩
 ·by_cases h2:y<x
  ·have HE:Hid (oB x y=1):=aB (by unfold oB;rw [if_neg h1,if_pos h2])
   go_enter Tryz.func111,Tryz.ntmps111
   go_wp2_with (go_at_call 117;refine(aA6 _ _).mono ?_;rintro e w5 ⟨rfl,h5⟩;subst w5)
   go_ret
   exact⟨by rw [HE.out];rfl,rfl⟩
  ·have HE:Hid (oB x y=0):=aB (by unfold oB;rw [if_neg h1,if_neg h2])
   go_enter Tryz.func111,Tryz.ntmps111
   go_wp2_with (go_at_call 117;refine(aA6 _ _).mono ?_;rintro e w5 ⟨rfl,h5⟩;subst w5)
   go_ret
   exact⟨by rw [HE.out];rfl,rfl⟩
theorem aA0{W:World}{bb g off cap n:Nat}{i j:Nat}{x y:Int}(hc:W.cell? ⟨bb,0,none⟩=some (.slice (some ⟨g,off,none⟩) n cap))(hx:W.cell? ⟨g,off+i*2,none⟩=some (.int .i64 x))(hy:W.cell? ⟨g,off+j*2,none⟩=some (.int .i64 y))(hi:i<n)(hj:j<n) :
  Calls Tryz.prog 110 #[.int .i64 (i:Int),.int .i64 (j:Int),.pointer (some ⟨bb,0,none⟩)] W fun e w'=>e=.returned (.int .i64 (oB x y))/\∃ q os',w'=Go.Sort.grow (W.drewN q) os':=by
 have i0:(0:Int)<=(i:Int):=by omega
 have j0:(0:Int)<=(j:Int):=by omega
 have i1:(i:Int)<(n:Int):=by omega
 have j1:(j:Int)<(n:Int):=by omega
 go_enter Tryz.func110,Tryz.ntmps110
 go_wp2
 go_quiet (first |(go_at_call 111;exact Calls.quiet_of_same (aT1 _ _ _)))
 go_wp2
 go_ret
 exact⟨rfl,_,#[],by rw [Go.Sort.grow_empty]⟩
theorem uH{α:Type}[Inhabited α](enc:α->Value)(w:World)(blk off m:Nat)(dk:Array α)(os:Array Obj){j:Nat}(h1:j≠blk)(h2:j<w.heap.size):(sortWorld enc w blk off m dk os).heap[j]?=w.heap[j]?:=by
 unfold sortWorld Go.Sort.grow Go.Sort.putRow Go.Sort.mapBlock Go.Sort.ahead
 simp only
 rw [Array.getElem?_append_left (by simpa using h2),Array.getElem?_modify,if_neg (Ne.symm h1)]
theorem aO5{α:Type}[Inhabited α](enc:α->Value)(w:World)(blk off m:Nat)(dk:Array α)(os:Array Obj){cur:Array Value}{t:TypeId}{fr:Nat×Nat}(h:w.heap[blk]?=some (.cells cur t fr)):∃ cur',(sortWorld enc w blk off m dk os).heap[blk]?=some (.cells cur' t fr):=by
 have hlt:=aC h
 unfold sortWorld Go.Sort.grow Go.Sort.putRow Go.Sort.mapBlock Go.Sort.ahead
 simp only
 rw [Array.getElem?_append_left (by simpa using hlt),Array.getElem?_modify,if_pos rfl,h]
 exact⟨_,rfl⟩
theorem aO4{α:Type}[Inhabited α](enc:α->Value)(w:World)(blk off m:Nat)(dk:Array α)(os:Array Obj):w.heap.size<=(sortWorld enc w blk off m dk os).heap.size:=by
 unfold sortWorld Go.Sort.grow Go.Sort.putRow Go.Sort.mapBlock Go.Sort.ahead
 simp
theorem sS{α:Type}[Inhabited α](enc:α->Value)(w:World)(blk off m:Nat)(dk:Array α)(os:Array Obj){j o:Nat}(h1:j≠blk)(h2:j<w.heap.size):(sortWorld enc w blk off m dk os).cell? ⟨j,o,none⟩=w.cell? ⟨j,o,none⟩:=by
 unfold World.cell?
 simp only [uH enc w blk off m dk os h1 h2]
def nT(w:World)(g:Nat)(I:List Nat):Prop:=∃ cur,w.heap[g]?=some (.cells cur 3 (0,0))/\∀ (i x:Nat),I[i]?=some x->cur[i]?=some (.int .i64 (x:Int))
def kU(L:List (Int×Int))(i:Nat):Int:=((L[i]?).getD (0,0)).1
theorem rF{L:List (Int×Int)}{i:Nat}{r:Int×Int}(h:L[i]?=some r):kU L i=r.1:=by unfold kU;rw [h];rfl
theorem ltI(x y:Int):decide (oB x y<0)=decide (x<y):=by
 unfold oB
 by_cases h1:x<y
 ·simp [h1]
 ·by_cases h2:y<x <;> simp [h1,h2]
theorem vD{α:Type}[Inhabited α](X:List α)(i:Nat)(h:i<X.length):X.toArray[i]! = X[i]:=by simp [h]
theorem wO(n:Nat):∃ D:List { x:Nat // x<n },D.map (fun x=>x.1)=List.range n:=
 ⟨(List.range n).attachWith (fun x=>x<n) (fun _ hx=>List.mem_range.1 hx),(List.attachWith_map_val (f:=id) (fun _ hx=>List.mem_range.1 hx)).trans (List.map_id _)⟩
theorem yT{w:World}{bb g off cap cap2 g2:Nat}{L:List (Int×Int)}(hne:0<L.length)(hlen:L.length<=8796093022208)(hc:w.cell? ⟨bb,0,none⟩=some (.slice (some ⟨g,off,none⟩) L.length cap))(hL:∀ (i:Nat) (r:Int×Int),L[i]?=some r->w.cell? ⟨g,off+i*2,none⟩=some (.int .i64 r.1))
  (hb:bb≠g2) (hg:g≠g2) (lb:bb<w.heap.size) (lg:g<w.heap.size) (hI:nT w g2 (List.range L.length)) :
  Calls Tryz.prog 109 #[.slice (some ⟨g2,0,none⟩) L.length cap2,.func (.func 110) #[] #[.pointer (some ⟨bb,0,none⟩)]] w fun e w'=>e=.returned (.tuple #[])/\∃ I:List Nat,nT w' g2 I/\I.Perm (List.range L.length)/\(I.map (kU L)).Pairwise (·<=·)/\Fr (fun k=>k=g2) w w':=by
 let α:={ x:Nat // x<L.length }
 have:Inhabited α:=⟨⟨0,hne⟩⟩
 let enc:α->Value:=fun x=>.int .i64 (x.1:Int)
 let cf:α->α->Int:=fun x y=>oB (kU L x.1) (kU L y.1)
 obtain⟨cur,hcur,hcv⟩:=hI
 obtain⟨D,hD⟩:∃ D:List α,D.map (fun x=>x.1)=List.range L.length:=wO L.length
 have hDl:D.length=L.length:=by have:=congrArg List.length hD;simpa using this
 have hDi:∀ i (h:i<D.length),(D[i]).1=i:=fun i h=>by
  have e:(D.map (fun x=>x.1))[i]?=(List.range L.length)[i]?:=by rw [hD]
  rw [t8,b7 h,b7 (by simpa using hDl ▸ h)] at e
  simpa using e
 have hgl:=aC hcur
 have hH:Go.Sort.Holds enc w g2 0 D.toArray:=fun j hj=>by
  have hj':j<D.length:=by simpa using hj
  rw [a7,vD D j hj']
  refine⟨aA hcur ?_,aJ hcur j⟩
  rw [hcv j j (by rw [b7 (by simpa using hDl ▸ hj')];simp)]
  show _=some (Value.int .i64 ((D[j]).1:Int))
  rw [hDi j hj']
 have hO:Go.Sort.SWO (ltOf cf):=by
  have hlt:∀ x y:α,ltOf cf x y=decide (kU L x.1<kU L y.1):=fun x y=>ltI _ _
  exact⟨fun x=>by rw [hlt];simp,fun x y z h1 h2=>by rw [hlt] at *;simp at *;omega,fun x y z h1 h2=>by rw [hlt] at *;simp at *;omega⟩
 have hcmp:CmpLays1 Tryz.prog 110 #[.pointer (some ⟨bb,0,none⟩)] enc cf g2 0 D.toArray.size w:=fun m os dk _ x y=>by
  have h1:=(sS enc w g2 0 m dk os (o:=0) hb lb).trans hc
  have h2:=(sS enc w g2 0 m dk os (o:=off+x.1*2) hg lg).trans (hL x.1 _ (b7 x.2))
  have h3:=(sS enc w g2 0 m dk os (o:=off+y.1*2) hg lg).trans (hL y.1 _ (b7 y.2))
  rw [<- rF (b7 x.2)] at h2
  rw [<- rF (b7 y.2)] at h3
  exact aA0 h1 h2 h3 x.2 y.2
 have eg:∀ args w,(callFunc 110 args).run Tryz.prog w=.ok (.enter 110 args) w:=enters_of Tryz.func110 (by kernel_rfl) rfl
 have hcon:=Any.slices_SortFunc Tryz.sortPl enc (fun _=>rfl) cf hO 110 #[.pointer (some ⟨bb,0,none⟩)] g2 0 cap2 D.toArray w eg hcmp hH hgl (by rw [aAH];omega)
 rw [aAH,hDl] at hcon
 refine Calls.mono (show Calls Tryz.prog 109 _ _ _ from hcon) ?_
 rintro e w' ⟨rfl,d',n,os,hp,hs,rfl⟩
 obtain⟨X,rfl⟩:∃ X:List α,d'=X.toArray:=⟨d'.toList,by simp⟩
 have hXl:X.length=L.length:=by have:=hp.1;simpa [hDl] using this
 have hperm:X.Perm D:=by
  have:=hp.2.2
  simpa [List.take_of_length_le (show X.length<=L.length by omega),List.take_of_length_le (show D.length<=L.length by omega)] using this
 have hH':=holds_sortWorld enc w g2 0 n D.toArray X.toArray os hgl hH (by simp [hXl,hDl])
 obtain⟨cur',hcur'⟩:=aO5 enc w g2 0 n X.toArray os hcur
 refine⟨rfl,X.map (fun x=>x.1),⟨cur',hcur',fun i x hx=>?_⟩,by rw [<- hD];exact hperm.map _,?_,rfl,rfl,rfl,aO4 enc w g2 0 n X.toArray os,fun k hk hs=>uH enc w g2 0 n X.toArray os hs hk⟩
 ·rw [t8] at hx
  cases hy:X[i]? with
  | none=>rw [hy] at hx;cases hx
  | some y=>
   rw [hy] at hx
   obtain⟨hi,e2⟩:=i7.1 hy
   have h1:=(hH' i (by simpa using hi)).1
   rw [a7,vD X i hi,e2] at h1
   unfold World.cell? at h1
   simp only [hcur'] at h1
   rw [<- Option.some.inj hx]
   exact h1
 ·rw [List.pairwise_iff_getElem]
  intro i j hi hj hij
  simp only [r7] at hi hj
  have:=hs i j (m7 _) hij (by omega)
  rw [vD X i hi,vD X j hj] at this
  have h2:decide (kU L X[j].1<kU L X[i].1)=false:=(ltI _ _).symm.trans this
  simp only [List.getElem_map]
  have:=of_decide_eq_false h2
  omega
end
section
attribute [local go_sem] bU
def blk(v:Value)(k:Nat):Prop:=v.ownBlock=some k
theorem sA{base:Nat}{w w1 w6:World}{q:Option Addr}{c g6 cap6:Nat}{C:List (Int×Int)}{r:Int×Int}(B1:Below w.heap.size w w1)(hg:w1.grownBy w6 (Value.slice q C.length c).ownBlock)
  (ho:w6.ownsRow base 53 2 (.slice (some ⟨g6,0,none⟩) (C.length+1) cap6) (C.length+1) (aH C++[.int .i64 r.1,.int .i64 r.2]))
  (hb:(Value.slice (some ⟨g6,0,none⟩) (C.length+1) cap6).ownBlock=(Value.slice q C.length c).ownBlock\/(Value.slice (some ⟨g6,0,none⟩) (C.length+1) cap6).ownBlock=some w1.heap.size) :
  RR base w6 (.slice (some ⟨g6,0,none⟩) (C.length+1) cap6) (C++[r])/\moved (.slice q C.length c) (.slice (some ⟨g6,0,none⟩) (C.length+1) cap6) w.heap.size/\Fr (blk (.slice q C.length c)) w w6:=by
 refine⟨?_,?_,(Fr.of_below B1).grown hg fun k hk=>hk⟩
 ·unfold RR
  rw [j3,v9,fY]
  exact ho
 ·rcases hb with hb | hb
  ·exact .inl hb
  ·exact .inr (.inr ⟨_,B1.size,hb⟩)
theorem xQ{base:Nat}{w w1 w6:World}{q:Option Addr}{n c g6 cap6:Nat}{C:List (Int×Int)}{r:Int×Int}(hn:C.length=n)(B1:Below w.heap.size w w1)(hg:w1.grownBy w6 (Value.slice q n c).ownBlock)
  (ho:w6.ownsRow base 53 2 (.slice (some ⟨g6,0,none⟩) (n+1) cap6) (n+1) (aH C++[.int .i64 r.1,.int .i64 r.2]))
  (hb:(Value.slice (some ⟨g6,0,none⟩) (n+1) cap6).ownBlock=(Value.slice q n c).ownBlock\/(Value.slice (some ⟨g6,0,none⟩) (n+1) cap6).ownBlock=some w1.heap.size) :
  RR base w6 (.slice (some ⟨g6,0,none⟩) (n+1) cap6) (C++[r])/\moved (.slice q n c) (.slice (some ⟨g6,0,none⟩) (n+1) cap6) w.heap.size/\Fr (blk (.slice q n c)) w w6:=by
 subst hn
 exact sA B1 hg ho hb
theorem xR{w:World}{v:Value}{r:Int×Int}(hr:r.2<r.1) :
  Calls Tryz.prog 101 #[v,.agg #[.int .i64 r.1,.int .i64 r.2]] w fun e w'=>e=.returned v/\Below w.heap.size w w':=by
 go_enter Tryz.func101,Tryz.ntmps101
 go_wp2
 go_ret
 exact⟨rfl,bz9⟩
theorem aL4{base:Nat}{w:World}{q:Option Addr}{c:Nat}{r:Int×Int}(h:RR base w (.slice q 0 c) [])(hr:¬ r.2<r.1)(hbase:base<=w.heap.size) :
  Calls Tryz.prog 101 #[.slice q 0 c,.agg #[.int .i64 r.1,.int .i64 r.2]] w fun e w'=>∃ v',e=.returned v'/\RR base w' v' [r]/\moved (.slice q 0 c) v' w.heap.size/\Fr (blk (.slice q 0 c)) w w':=by
 obtain⟨t0,hi,hz0,hz1,hz2⟩:=aW cA
 have H:Hid (RR base w (.slice q 0 c) []):=h
 clear h
 go_enter Tryz.func101,Tryz.ntmps101
 go_wp2
 refine wx9 ?_
 repeat (go_big_quiet_step (first | exact rfl))
 refine wpQuiet_nil ?_
 intro w1 hw
 have B1:Hid (Below w.heap.size w w1):=aF (bz9) (aS hw) (by simp)
 have hb1:=aS hw
 have m0:w1.cell? ⟨w.heap.size,0,none⟩=some (.int .i64 r.1):=(hb1.cell (p:=⟨w.heap.size,0,none⟩) (by simp)).trans (aA (aD w _) (i:=0) rfl)
 have m1:w1.cell? ⟨w.heap.size,1,none⟩=some (.int .i64 r.2):=(hb1.cell (p:=⟨w.heap.size,1,none⟩) (by simp)).trans (aA (aD w _) (i:=1) rfl)
 have hsz:w.heap.size<=w1.heap.size:=B1.out.size
 have O1:Hid (RR base w1 (.slice q 0 c) []):=H.out.kept B1.out
 clear hb1 hw
 go_wp2_with (at_builtin;refine wpList_append_own_at _ rfl _ _ 22 rfl base 53 t0 (.agg #[.int .i64 0,.int .i64 0]) 2 16 aU hi hz0 hz1 hz2 rfl (by decide) (.slice q 0 c) 0 [] rfl (o8 O1.out (.cells #[.int .i64 r.1,.int .i64 r.2] 53)) ⟨w1.heap.size,0,none⟩ 1 1 [.int .i64 r.1,.int .i64 r.2] rfl rfl (iF _ _ _ _) (by simp [Value.oneCell']) (by unfold maxLen;omega) (by omega) (by simp;omega) ?_;intro v' w6 hown' hgrow _ hblk;obtain⟨g6,cap6,rfl⟩:=aN hown' (u4 _);have A6:Hid _:=sA (C:=[]) (r:=r) (B1.out.alloc B1.out.size _) hgrow hown' hblk;clear hown' hgrow hblk)
 go_ret
 exact⟨_,rfl,A6.out.1,A6.out.2.1,A6.out.2.2⟩
theorem lR{base:Nat}{w:World}{g n c:Nat}{D:List (Int×Int)}{x:Int×Int}(h:w.ownsRow base 53 2 (.slice (some ⟨g,0,none⟩) (n+1) c) (n+1) (aH (D++[x])))(hn:D.length=n):w.cell? ⟨g,n*2,none⟩=some (.int .i64 x.1)/\w.cell? ⟨g,n*2+1,none⟩=some (.int .i64 x.2):=by
 have hx:(D++[x])[n]?=some x:=by subst hn;simp
 obtain⟨p1,p2⟩:=fL (D++[x]) n x hx
 rw [u0] at p1 p2
 exact⟨bM h p1,bM h p2⟩
theorem aL5{base:Nat}{w:World}{g n c:Nat}{D:List (Int×Int)}{x r:Int×Int}(h:w.ownsRow base 53 2 (.slice (some ⟨g,0,none⟩) (n+1) c) (n+1) (aH (D++[x])))(hn:D.length=n)(hr:¬ r.2<r.1)(hbase:base<=w.heap.size)(hf:x.2+1<r.1)
  (hlo:-9223372036854775808<=x.2) (hm:r.1<=9223372036854775807) (hl:n+2<=8796093022208) :
  Calls Tryz.prog 101 #[.slice (some ⟨g,0,none⟩) (n+1) c,.agg #[.int .i64 r.1,.int .i64 r.2]] w fun e w'=>∃ v',e=.returned v'/\RR base w' v' (D++[x]++[r])/\moved (.slice (some ⟨g,0,none⟩) (n+1) c) v' w.heap.size/\Fr (blk (.slice (some ⟨g,0,none⟩) (n+1) c)) w w':=by
 obtain⟨t0,hi,hz0,hz1,hz2⟩:=aW cA
 have H:Hid (w.ownsRow base 53 2 (.slice (some ⟨g,0,none⟩) (n+1) c) (n+1) (aH (D++[x]))):=h
 have HN:Hid (D.length=n):=hn
 have glt:g<w.heap.size:=(aG h rfl).2.1
 have hcell:=(lR h hn).2
 clear h hn
 have e1:IntKind.wrap .i64 ((n:Int)+1-1)=(n:Int):=by rw [IntKind.wrap_i64];omega
 have e2:IntKind.wrap .i64 (x.2+1)=x.2+1:=by rw [IntKind.wrap_i64];omega
 have hx:=hcell
 generalize x.2=y at *
 have i0:¬ (n:Int)<0:=by omega
 have i1:(0:Int)<=(n:Int):=by omega
 have i2:(n:Int)<(n:Int)+1:=by omega
 have d0:decide ((n:Int)<0)=false:=j8 i0
 have d1:decide (y<r.1)=true:=r9 (by omega)
 have d2:decide (y+1<r.1)=true:=r9 hf
 go_enter Tryz.func101,Tryz.ntmps101
 go_wp2
 refine wx9 ?_
 repeat (go_big_quiet_step (first | exact rfl))
 refine wpQuiet_nil ?_
 intro w1 hw
 have B1:Hid (Below w.heap.size w w1):=aF (bz9) (aS hw) (by simp)
 have hb1:=aS hw
 have m0:w1.cell? ⟨w.heap.size,0,none⟩=some (.int .i64 r.1):=(hb1.cell (p:=⟨w.heap.size,0,none⟩) (by simp)).trans (aA (aD w _) (i:=0) rfl)
 have m1:w1.cell? ⟨w.heap.size,1,none⟩=some (.int .i64 r.2):=(hb1.cell (p:=⟨w.heap.size,1,none⟩) (by simp)).trans (aA (aD w _) (i:=1) rfl)
 have hsz:w.heap.size<=w1.heap.size:=B1.out.size
 have O1:Hid (w1.ownsRow base 53 2 (.slice (some ⟨g,0,none⟩) (n+1) c) (n+1) (aH (D++[x]))):=aK (S:=fun _=>False) H.out (Fr.of_below B1.out) (fun _ _ q=>q)
 clear hb1 hw
 go_wp2_with (at_builtin;refine wpList_append_own_at _ rfl _ _ 22 rfl base 53 t0 (.agg #[.int .i64 0,.int .i64 0]) 2 16 aU hi hz0 hz1 hz2 rfl (by decide) (.slice (some ⟨g,0,none⟩) (n+1) c) (n+1) (aH (D++[x])) rfl (o8 O1.out (.cells #[.int .i64 r.1,.int .i64 r.2] 53)) ⟨w1.heap.size,0,none⟩ 1 1 [.int .i64 r.1,.int .i64 r.2] rfl rfl (iF _ _ _ _) (by simp [Value.oneCell']) (by unfold maxLen;omega) (by omega) (by simp;omega) ?_;intro v' w6 hown' hgrow _ hblk;obtain⟨g6,cap6,rfl⟩:=aN hown' (u4 _);have A6:Hid _:=xQ (n:=n+1) (C:=D++[x]) (r:=r) (by have:=HN.out;simp;omega) (B1.out.alloc B1.out.size _) hgrow hown' hblk;clear hown' hgrow hblk)
 go_ret
 exact⟨_,rfl,A6.out.1,A6.out.2.1,A6.out.2.2⟩
end
end Go.Proofs.YtlamifbjklpdbaaGreat
