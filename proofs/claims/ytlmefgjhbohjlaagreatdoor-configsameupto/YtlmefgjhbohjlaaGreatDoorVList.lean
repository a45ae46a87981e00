/- Values in memory; what turns and what stays. -/
import Derived.Test.YtlmefgjhbohjlaaGreatDoorKSpec
import Derived.Lib.AppendIntMem
namespace Go.Proofs.YtlmefgjhbohjlaaGreatDoor
set_option maxRecDepth 20000
set_option maxHeartbeats 8000000
open Go.RowKit
def vcells_k (k:Int) (b:Bool) (t:B) (n:Int) (h:Bool) (lv nv:Value):List Value:=[.int .i64 k,.bool b,.string (str t),.int .i64 n,.bool h,lv,nv]
mutual
def ValIs_k (w:World) (F:Nat→Prop):JV→List Value→Prop
 | .mk k b t n h ls ns,cs=>∃ lv nv,cs=vcells_k k b t n h lv nv∧SliceIs lv ls.length (fun g o=>F g∧ValsIs_k w F ls g o)∧SliceIs nv ns.length (fun g o=>F g∧StrsAt w ns g o)
def ValsIs_k (w:World) (F:Nat→Prop):List JV→Nat→Nat→Prop
 | [],_,_=>True
 |x::xs,g,o=>(∃ cs,ValIs_k w F x cs∧∀ j c,cs[j]?=some c→w.cell? ⟨g,o+j,none⟩=some c)∧ValsIs_k w F xs g (o+7)
end
mutual
theorem ValIs_k.keep {w w':World}{F F':Nat→Prop} (e:∀ k,F k→w'.heap[k]?=w.heap[k]?) (i:∀ k,F k→F' k):∀ (t:JV) (cs:List Value),ValIs_k w F t cs→ValIs_k w' F' t cs
 | .mk k b t n h ls ns,cs,hv=>by
  simp only [ValIs_k] at hv ⊢;obtain⟨lv,nv,rfl,h1,h2⟩:=hv;exact⟨lv,nv,rfl,h1.imp fun g o hg=>⟨i g hg.1,ValsIs_k.keep e i ls g o hg.1 hg.2⟩,h2.imp fun g o hg=>⟨i g hg.1,hg.2.keep (e g hg.1)⟩⟩
theorem ValsIs_k.keep {w w':World}{F F':Nat→Prop} (e:∀ k,F k→w'.heap[k]?=w.heap[k]?) (i:∀ k,F k→F' k):∀ (ls:List JV) (g o:Nat),F g→ValsIs_k w F ls g o→ValsIs_k w' F' ls g o
 | [],_,_,_,_=>trivial
 |x::xs,g,o,hF,hv=>by
  simp only [ValsIs_k] at hv ⊢;obtain⟨⟨cs,h1,h2⟩,h3⟩:=hv;exact⟨⟨cs,ValIs_k.keep e i x cs h1,fun j c hj=>by rw [World.cell?_of_block (w:=w) (by exact e g hF)];exact h2 j c hj⟩,ValsIs_k.keep e i xs g (o+7) hF h3⟩
end
theorem ValIs_k.form {w:World}{F:Nat→Prop}{t:JV}{cs:List Value} (h:ValIs_k w F t cs):∃ k b tx n hh p1 n1 q1 p2 n2 q2,cs= [.int .i64 k,.bool b,.string (str tx),.int .i64 n,.bool hh,.slice p1 n1 q1,.slice p2 n2 q2]:=by
 cases t with
 |mk k b tx n hh ls ns=>
  simp only [ValIs_k] at h;obtain⟨lv,nv,rfl,⟨p1,q1,rfl,_⟩,⟨p2,q2,rfl,_⟩⟩:=h;exact⟨k,b,tx,n,hh,p1,_,q1,p2,_,q2,rfl⟩
def ValOn_k (w:World) (t:JV) (cs:List Value):Prop:=∃ F:Nat→Prop,(∀ k,F k→k<w.heap.size)∧ValIs_k w F t cs
def PartsOn_k (w:World) (ls:List JV) (p:Option Addr):Prop:=∀ i t,ls[i]?=some t→∃ g o cs,p=some ⟨g,o,none⟩∧ValOn_k w t cs∧∀ j c,cs[j]?=some c→w.cell? ⟨g,o+i*7+j,none⟩=some c
theorem ValOn_k.below {w w':World}{t:JV}{cs:List Value} (h:ValOn_k w t cs) (hb:Below w.heap.size w w'):ValOn_k w' t cs:=by
 obtain⟨F,h1,h2⟩:=h;exact⟨F,fun k hk=>Nat.lt_of_lt_of_le (h1 k hk) hb.size,ValIs_k.keep (fun k hk=>hb.block k (h1 k hk)) (fun _ h=>h) _ _ h2⟩
theorem vals_get_k {w:World}{F:Nat→Prop}{g:Nat}:∀ (ls:List JV) (o:Nat),ValsIs_k w F ls g o→∀ i t,ls[i]?=some t→∃ cs,ValIs_k w F t cs∧∀ j c,cs[j]?=some c→w.cell? ⟨g,o+7*i+j,none⟩=some c
 | [],o,_,i,t,hi=>by simp at hi
 |x::xs,o,h,i,t,hi=>by
  simp only [ValsIs_k] at h;obtain⟨⟨cs,h1,h2⟩,h3⟩:=h;cases i with
  |zero=>
   simp only [List.getElem?_cons_zero,Option.some.injEq] at hi;subst hi;exact⟨cs,h1,fun j c hj=>by simpa using h2 j c hj⟩
  |succ i=>
   obtain⟨cs',a1,a2⟩:=vals_get_k xs (o+7) h3 i t (by simpa using hi);refine⟨cs',a1,fun j c hj=>?_⟩;rw [show o+7*(i+1)+j=o+7+7*i+j by omega];exact a2 j c hj
theorem ValOn_k.open {w:World}{k:Int}{b:Bool}{t:B}{n:Int}{hh:Bool}{ls:List JV}{ns:List B}{cs:List Value} (h:ValOn_k w (.mk k b t n hh ls ns) cs):
 ∃ p1 c1 p2 c2,cs= [.int .i64 k,.bool b,.string (str t),.int .i64 n,.bool hh,.slice p1 ls.length c1,.slice p2 ns.length c2]∧PartsOn_k w ls p1∧NamesOn w ns p2:=by
 obtain⟨F,h0,h⟩:=h;simp only [ValIs_k] at h;obtain⟨lv,nv,rfl,⟨p1,c1,rfl,_,h1⟩,⟨p2,c2,rfl,_,h2⟩⟩:=h;refine⟨p1,c1,p2,c2,rfl,fun i t hi=>?_,fun j t hj=>?_⟩
 · have hlt:i<ls.length:=(List.getElem?_eq_some_iff.1 hi).1;obtain⟨g,o,e,hF,hv⟩:=h1 (by omega);obtain⟨cs,a1,a2⟩:=vals_get_k ls o hv i t hi;exact⟨g,o,cs,e,⟨F,h0,a1⟩,fun j c hj=>by rw [show o+i*7+j=o+7*i+j by omega];exact a2 j c hj⟩
 · have hlt:j<ns.length:=(List.getElem?_eq_some_iff.1 hj).1;obtain⟨g,o,e,hF,hv⟩:=h2 (by omega);exact⟨g,o,e,hv j t hj⟩
theorem ValOn_k.form {w:World}{t:JV}{cs:List Value} (h:ValOn_k w t cs):∃ k b tx n hh p1 n1 q1 p2 n2 q2,cs= [.int .i64 k,.bool b,.string (str tx),.int .i64 n,.bool hh,.slice p1 n1 q1,.slice p2 n2 q2]:=by
 obtain⟨F,_,h⟩:=h;exact h.form
def maxI_k:Nat:=1048576
mutual
def Fits_k:JV→Prop
 | .mk _ _ t _ _ ls ns=>t.length≤maxI_k∧ls.length≤maxI_k∧ns.length≤maxI_k∧(∀ z∈ns,z.length≤maxI_k)∧FitsL_k ls
def FitsL_k:List JV→Prop
 | []=>True
 |x::xs=>Fits_k x∧FitsL_k xs
end
theorem fitsL_iff_k:∀ ls:List JV,FitsL_k ls↔∀ x∈ls,Fits_k x
 | []=>by simp [FitsL_k]
 |x::xs=>by simp [FitsL_k,fitsL_iff_k xs]
theorem flat_val_k (w:World) (F:Nat→Prop) (k:Int) (b:Bool) (t:B) (n:Int) (h:Bool):ValIs_k w F (.mk k b t n h [] []) [.int .i64 k,.bool b,.string (str t),.int .i64 n,.bool h,.slice none 0 0,.slice none 0 0]:=by
 simp only [ValIs_k];exact⟨_,_,rfl,⟨none,0,rfl,Nat.le_refl _,fun h=>absurd h (by simp)⟩,⟨none,0,rfl,Nat.le_refl _,fun h=>absurd h (by simp)⟩⟩
def ValB_k (w:World) (N:Nat) (t:JV) (cs:List Value):Prop:=∃ F:Nat→Prop,(∀ k,F k→k<N)∧ValIs_k w F t cs
theorem ValB_k.below {w w':World}{N:Nat}{t:JV}{cs:List Value} (h:ValB_k w N t cs) (hb:Below N w w'):ValB_k w' N t cs:=by
 obtain⟨F,h1,h2⟩:=h;exact⟨F,h1,ValIs_k.keep (fun k hk=>hb.block k (h1 k hk)) (fun _ h=>h) _ _ h2⟩
theorem ValB_k.on {w:World}{N:Nat}{t:JV}{cs:List Value} (h:ValB_k w N t cs) (hN:N≤w.heap.size):ValOn_k w t cs:=by
 obtain⟨F,h1,h2⟩:=h;exact⟨F,fun k hk=>Nat.lt_of_lt_of_le (h1 k hk) hN,h2⟩
def PartsB_k (w:World) (N:Nat) (ls:List JV) (p:Option Addr):Prop:=∀ i t,ls[i]?=some t→∃ g o cs,p=some ⟨g,o,none⟩∧g<N∧ValB_k w N t cs∧∀ j c,cs[j]?=some c→w.cell? ⟨g,o+i*7+j,none⟩=some c
theorem PartsB_k.below {w w':World}{N:Nat}{ls:List JV}{p:Option Addr} (h:PartsB_k w N ls p) (hb:Below N w w'):PartsB_k w' N ls p:=by
 intro i t hi;obtain⟨g,o,cs,h1,hg,h2,h3⟩:=h i t hi;exact⟨g,o,cs,h1,hg,h2.below hb,fun j c hj=>by rw [cell_block (hb.block g hg)];exact h3 j c hj⟩
theorem ValB_k.open {w:World}{N:Nat}{k:Int}{b:Bool}{t:B}{n:Int}{hh:Bool}{ls:List JV}{ns:List B}{cs:List Value} (h:ValB_k w N (.mk k b t n hh ls ns) cs):
 ∃ p1 c1 p2 c2,cs= [.int .i64 k,.bool b,.string (str t),.int .i64 n,.bool hh,.slice p1 ls.length c1,.slice p2 ns.length c2]∧PartsB_k w N ls p1∧NamesB w N ns p2:=by
 obtain⟨F,h0,h⟩:=h;simp only [ValIs_k] at h;obtain⟨lv,nv,rfl,⟨p1,c1,rfl,_,h1⟩,⟨p2,c2,rfl,_,h2⟩⟩:=h;refine⟨p1,c1,p2,c2,rfl,fun i t hi=>?_,fun j t hj=>?_⟩
 · have hlt:i<ls.length:=(List.getElem?_eq_some_iff.1 hi).1;obtain⟨g,o,e,hF,hv⟩:=h1 (by omega);obtain⟨cs,a1,a2⟩:=vals_get_k ls o hv i t hi;exact⟨g,o,cs,e,h0 g hF,⟨F,h0,a1⟩,fun j c hj=>by rw [show o+i*7+j=o+7*i+j by omega];exact a2 j c hj⟩
 · have hlt:j<ns.length:=(List.getElem?_eq_some_iff.1 hj).1;obtain⟨g,o,e,hF,hv⟩:=h2 (by omega);exact⟨g,o,e,h0 g hF,hv j t hj⟩
structure Env_k (w:World):Prop where
 most:∃ m:Int,w.cell? ⟨3,0,none⟩=some (.int .i64 m)
 syn:∃ te pe,w.cell? ⟨4,0,none⟩=some (.iface te pe)
 rng:∃ te pe,w.cell? ⟨5,0,none⟩=some (.iface te pe)
 pow : Lib.TabIs Tryz.prog w "internal/strconv.uint64pow10" .u64 Lib.pow10Tab
 typ:w.cell? ⟨0,0,none⟩=some (.iface 221 (.agg #[.pointer (some ⟨9,28,none⟩)]))
theorem Env_k.below {w w':World} (h:Env_k w) (hb:Below w.heap.size w w'):Env_k w':=by
 obtain⟨⟨m,h1⟩,⟨a,b,h2⟩,⟨c,d,h3⟩,h4,h5⟩:=h;exact⟨⟨m,cell_keep hb h1⟩,⟨a,b,cell_keep hb h2⟩,⟨c,d,cell_keep hb h3⟩,Lib.tabBelow_of_tabIs h4 _ hb,cell_keep hb h5⟩
def ToldV_k (N:Nat) (r:JV) (k:Nat) (w:World) (e:Ending) (w':World):Prop:=∃ cs:List Value,e= .returned (.tuple #[.agg cs.toArray,errOf k])∧ValB_k w' N r cs∧Below w.heap.size w w'
theorem below_seven {w W:World}{g:Nat} (h:Below w.heap.size w W) (hg:w.heap.size≤g) (c0 c1 c2 c3 c4 c5 c6:Value):Below w.heap.size w (((((((W.setCell ⟨g,0,none⟩ c0).setCell ⟨g,1,none⟩ c1).setCell ⟨g,2,none⟩ c2).setCell ⟨g,3,none⟩ c3).setCell ⟨g,4,none⟩ c4).setCell ⟨g,5,none⟩ c5).setCell ⟨g,6,none⟩ c6):=by
 iterate 7 refine Below.setCell ?_ hg _
 exact h
theorem below_sevenN {w W:World}{N g:Nat} (h:Below N w W) (hg:N≤g) (c0 c1 c2 c3 c4 c5 c6:Value):Below N w (((((((W.setCell ⟨g,0,none⟩ c0).setCell ⟨g,1,none⟩ c1).setCell ⟨g,2,none⟩ c2).setCell ⟨g,3,none⟩ c3).setCell ⟨g,4,none⟩ c4).setCell ⟨g,5,none⟩ c5).setCell ⟨g,6,none⟩ c6):=by
 iterate 7 refine Below.setCell ?_ hg _
 exact h
theorem zero_b (w:World) (N:Nat):ValB_k w N JV.zero [.int .i64 0,.bool false,.string ⟨#[]⟩,.int .i64 0,.bool false,.slice none 0 0,.slice none 0 0]:=⟨fun _=>False,fun _ h=>h.elim,flat_val_k _ _ _ _ _ _ _⟩
theorem ValB_k.form {w:World}{N:Nat}{t:JV}{cs:List Value} (h:ValB_k w N t cs):∃ k b tx n hh p1 n1 q1 p2 n2 q2,cs= [.int .i64 k,.bool b,.string (str tx),.int .i64 n,.bool hh,.slice p1 n1 q1,.slice p2 n2 q2]:=by
 obtain⟨F,_,h⟩:=h;exact h.form
theorem fits_parts {t:JV} (h:Fits_k t):∀ x∈t.parts,Fits_k x:=by
 cases t;simp only [Fits_k,fitsL_iff_k] at h;exact h.2.2.2.2
theorem fits_goto:∀ (ss:List B) (t x:JV),Fits_k t→goto t ss=some x→Fits_k x
 | [],t,x,h,e=>by
  simp only [goto,Option.some.injEq] at e;rw [←e];exact h
 |s::r,t,x,h,e=>by
  simp only [goto] at e;split at e
  · cases e
  · split at e
    · cases e
    · rename_i y hy
      exact fits_goto r y x (fits_parts h y (List.mem_of_getElem? hy)) e
theorem fits_zero:Fits_k JV.zero:=by
 simp only [JV.zero,Fits_k,FitsL_k];simp
theorem fits_kind (t:JV) (ss:List B) {k:Int} (h:Fits_k t):Fits_k (ofKind k (goto t ss)).1:=by
 cases e:goto t ss with
 |none=>exact fits_zero
 |some x=>
  simp only [ofKind];split
  · exact fits_goto ss t x h e
  · exact fits_zero
theorem two_at_k (w:World) (o1 o2:Obj):((w.alloc o1).alloc o2).heap[w.heap.size]?=some o1∧((w.alloc o1).alloc o2).heap[w.heap.size+1]?=some o2∧Below w.heap.size w ((w.alloc o1).alloc o2):=by
 refine⟨?_,?_,((Below.refl _ _).alloc (Nat.le_refl _) o1).alloc (by simp) o2⟩
 · rw [Below.heap_alloc _ _ _ (by simp)];exact heap_alloc_new w o1
 · have:=heap_alloc_new (w.alloc o1) o2;simpa using this
structure EnvC (w:World):Prop where
 j:Env w
 k:Env_k w
theorem EnvC.next {w w':World} (h:EnvC w) (hb:Below w.heap.size w w'):EnvC w':=⟨h.j.below hb,h.k.below hb⟩
theorem EnvC.mx {w:World} (h:EnvC w):MxAt w:=h.k.most
theorem EnvC.t {w:World} (h:EnvC w):Env_t w:=⟨h.k.most⟩
def numT (i:Nat):B:=Lib.itoa (i:Int)
theorem numT_len (i:Nat) (h:i≤9223372036854775807):(numT i).length≤21:=Lib.itoa_length_le (i:Int) (by omega) (by omega)
theorem ptext_any (i:Nat) (h:i≤9223372036854775807) (w:World) (hE:EnvC w):Calls Tryz.prog 125 #[.int .i64 (i:Int)] w fun e w'=>e= .returned (.string (str (numT i)))∧Below w.heap.size w w':=by
 have HC:=hid (Tryz.strconv_Itoa (i:Int) (by omega) (by omega) w hE.k.pow);go_enter Tryz.func125,Tryz.ntmps125;go_wp2_with (go_at_call 204;(with_reducible refine HC.out.mono ?_);rintro e w' ⟨rfl,k,os,rfl⟩);go_ret;exact⟨rfl,Lib.below_grow _ _ (Nat.le_refl _) _ _⟩
theorem keysC_in (k:AskC) (l:List KeyC):keysC k l=if inC l.length 0 16=false then n_keys else keysFrom k 0 [] l:=by
 unfold keysC inC;by_cases h:16<l.length
 · rw [if_pos h,if_pos];rw [Bool.and_eq_false_iff,decide_eq_false_iff_not,decide_eq_false_iff_not];omega
 · rw [if_neg h,if_neg];rw [Bool.and_eq_false_iff,decide_eq_false_iff_not,decide_eq_false_iff_not];omega
theorem str_five (a b c:B) (h:a≠ []):str a++(⟨#[46]⟩:ByteArray)++str b++(⟨#[46]⟩:ByteArray)++str c=str (behindC (behindC a b) c):=by
 have e:behindC (behindC a b) c=a++46::(b++46::c):=by
  unfold behindC;rw [if_neg h,if_neg (by simp)];simp
 rw [e];apply arr_inj;simp
theorem keys_step2 (l:List KeyC) (x:KeyC) (i:Nat) (h:l[i]?=some x):keysFrom askT i (l.take i) (l.drop i)=if keyF l x i≠ [] then behindC (behindC n_keys (numT i)) (keyF l x i) else keysFrom askT (i+1) (l.take (i+1)) (l.drop (i+1)):=by
 rw [keys_step askT l x i h];unfold keyF;split
 · rfl
 · split <;> rfl
theorem pkeys_any (l:List KeyC) (p:Option Addr) (n c:Nat) (hn:l.length=n) (hc:n≤c) (hz:∀ x∈l,x.id.length≤maxLen∧x.sec.length≤maxLen) (hnn:n≤140737488355328) (w:World) (hE:EnvC w) (hB:KyAt w p l):Calls Tryz.prog 85 #[.string (str n_keys),.slice p n c,.int .i64 0,.int .i64 16,.func (.func 86) #[] #[]] w fun e w'=>e= .returned (.string (str (keysC askT l)))∧Below w.heap.size w w':=by
 have HN:=hid hn;have HBk:=hid hB;have HE:=hid hE;have HOne:=hid (fun (i:Nat) (x:KeyC) (hx:l[i]?=some x) (W:World) (hb:Below w.heap.size w W)=>pkey_any l p n c hn hc hz hnn i x hx W (hB.next hb));have HW:=hid (fun W:World=>pwithin_any (n:Int) 0 16 W);have HV:=hid (show keysC askT l=(if inC n 0 16=false then n_keys else keysFrom askT 0 (l.take 0) (l.drop 0)) from by rw [keysC_in,hn];rfl);obtain⟨R,hR⟩:∃ R,keysC askT l=R:=⟨_,rfl⟩;rw [hR] at HV ⊢;clear hR hn hB hE hz;obtain⟨bw,hbw⟩:∃ b,inC n 0 16=b:=⟨_,rfl⟩;rw [hbw] at HW HV;have hn64:bw=true→n≤16:=fun h=>by rw [h] at hbw;have:=hbw;unfold inC at this;simp at this;omega
 clear hbw;cases bw
 · have HR:=hid (show R=n_keys from by rw [HV.out,if_pos rfl]);rw [HR.out];clear HV HR;go_enter Tryz.func85,Tryz.ntmps85;go_wp2_with (go_at_call 92;(with_reducible refine(HW.out _).mono ?_);rintro e w6 ⟨rfl,hw6⟩;subst w6);go_ret;exact⟨rfl,Below.refl _ _⟩
 have hn3:=hn64 rfl;have HR:=hid (show R=keysFrom askT 0 (l.take 0) (l.drop 0) from by rw [HV.out,if_neg (by decide)]);clear HV hn64;go_enter Tryz.func85,Tryz.ntmps85;go_wp2_with (go_at_call 92;(with_reducible refine(HW.out _).mono ?_);rintro e w6 ⟨rfl,hw6⟩;subst w6);go_loopg [22] (n+1) (fun gk s wr=>∃ i:Nat,i≤n∧gk=n-i+1∧s= .int .i64 (i:Int)∧R=keysFrom askT i (l.take i) (l.drop i)∧Below w.heap.size w wr)
 case atStart=>exact⟨0,by omega,rfl,rfl,HR.out,Below.refl _ _⟩
 case round=>
  clear HR;obtain⟨i,hi,rfl,rfl,hE,hb⟩:=hrel;have HE2:=hid hE;have HB:=hid hb;clear hE hb;by_cases hin:i<n
  case neg=>
   have hiN:i=n:=by omega
   subst hiN;have HR:=hid (show R= [] from by rw [HE2.out,show l.drop i= [] from by rw [List.drop_eq_nil_iff,HN.out];exact Nat.le_refl _];rfl);go_wp2;go_ret;exact⟨ret_str HR.out.symm,HB.out⟩
  have h1:i<l.length:=by rw [HN.out];exact hin
  obtain⟨x,hx⟩:∃ x,l[i]?=some x:=⟨_,List.getElem?_eq_getElem h1⟩;have HSt:=hid (keys_step2 l x i hx);have HOn:=hid (HOne.out i x hx wr HB.out);have HTx:=hid (fun (W:World) (hb:Below w.heap.size w W)=>ptext_any i (by omega) W (HE.out.next hb));have hnl:=numT_len i (by omega);have hfl:(keyF l x i).length≤4096:=by unfold keyF;split;decide;split <;> decide
  have HFive:=hid (str_five n_keys (numT i) (keyF l x i) (by decide));obtain⟨at_,hat⟩:∃ t,keyF l x i=t:=⟨_,rfl⟩;rw [hat] at HSt HOn hfl HFive;clear h1 hx hat;by_cases h0:at_= []
  · subst h0;have HR:=hid (show R=keysFrom askT (i+1) (l.take (i+1)) (l.drop (i+1)) from by rw [HE2.out,HSt.out,if_neg (by simp)]);clear HSt HE2 HFive hfl;go_wp2_with (go_at_call 86;(with_reducible refine HOn.out.mono ?_);rintro e w1 ⟨rfl,hw1⟩;have HB1:=hid (HB.out.trans (hw1.mono HB.out.size));clear hw1);go_roundg (n-(i+1)+1)
    case measure=>omega
    case rel=>exact⟨i+1,by omega,by omega,by go_num,HR.out,HB1.out⟩
  · have HR:=hid (show R=behindC (behindC n_keys (numT i)) at_ from by rw [HE2.out,HSt.out,if_pos h0]);clear HSt HE2;have f1:=ne_facts h0;have hz1:=str_size at_;have hz2:=str_size (numT i);obtain⟨S,hS⟩:∃ S,str at_=S:=⟨_,rfl⟩;obtain⟨S2,hS2⟩:∃ S,str (numT i)=S:=⟨_,rfl⟩;rw [hS] at f1 HOn hz1 HFive;rw [hS2] at hz2 HTx HFive;have f2:(S.toList== (⟨#[]⟩:ByteArray).toList)=false:=ne_list f1;have f3:S.toList.isEmpty=false:=ne_empty f1;have f4:(S.toList== [])=false:=by have h:=f2;rw [ByteArray.toList_eq,ByteArray.toList_eq] at h;rw [ByteArray.toList_eq];exact h
    have g1:S.size≤4096:=by omega
    have g2:S2.size≤21:=by omega
    clear hS hS2 h0 hz1 hz2 hfl hnl;go_wp2_with (first|(go_at_call 86;(with_reducible refine HOn.out.mono ?_);rintro e w1 ⟨rfl,hw1⟩;have HB1:=hid (HB.out.trans (hw1.mono HB.out.size));clear hw1)|(go_at_call 125;(with_reducible refine(HTx.out _ HB1.out).mono ?_);rintro e w7 ⟨rfl,hw7⟩;have HB7:=hid (HB1.out.trans (hw7.mono HB1.out.size));clear hw7));go_ret;exact⟨by rw [HR.out,←HFive.out];rfl,HB7.out⟩
theorem backs_step2 (l:List BackC) (x:BackC) (i:Nat) (h:l[i]?=some x):backsFrom askT i (l.take i) (l.drop i)=if backF askT l x i≠ [] then behindC (behindC n_backends (numT i)) (backF askT l x i) else backsFrom askT (i+1) (l.take (i+1)) (l.drop (i+1)):=by
 rw [backs_step askT l x i h];unfold backF;split
 · rfl
 · split <;> rfl
theorem pbacks_any (l:List BackC) (p:Option Addr) (n c:Nat) (hn:l.length=n) (hc:n≤c) (hz:∀ x∈l,x.addr.length≤140737488355328) (hnn:n≤140737488355328) (w:World) (hE:EnvC w) (hB:BkAt w p l):Calls Tryz.prog 157 #[.string (str n_backends),.slice p n c,.int .i64 1,.int .i64 32,.func (.func 158) #[] #[]] w fun e w'=>e= .returned (.string (str (backsC askT l)))∧Below w.heap.size w w':=by
 have HN:=hid hn;have HBk:=hid hB;have HE:=hid hE;have HOne:=hid (fun (i:Nat) (x:BackC) (hx:l[i]?=some x) (W:World) (hb:Below w.heap.size w W)=>pback_any l p n c hn hc hz hnn i x hx W (hE.next hb).mx (hB.next hb));have HW:=hid (fun W:World=>pwithin_any (n:Int) 1 32 W);have HV:=hid (show backsC askT l=(if inC n 1 32=false then n_backends else backsFrom askT 0 (l.take 0) (l.drop 0)) from by unfold backsC;rw [hn];rfl);obtain⟨R,hR⟩:∃ R,backsC askT l=R:=⟨_,rfl⟩;rw [hR] at HV ⊢;clear hR hn hB hE hz;obtain⟨bw,hbw⟩:∃ b,inC n 1 32=b:=⟨_,rfl⟩;rw [hbw] at HW HV;have hn64:bw=true→n≤32:=fun h=>by rw [h] at hbw;have:=hbw;unfold inC at this;simp at this;omega
 clear hbw;cases bw
 · have HR:=hid (show R=n_backends from by rw [HV.out,if_pos rfl]);rw [HR.out];clear HV HR;go_enter Tryz.func157,Tryz.ntmps157;go_wp2_with (go_at_call 92;(with_reducible refine(HW.out _).mono ?_);rintro e w6 ⟨rfl,hw6⟩;subst w6);go_ret;exact⟨rfl,Below.refl _ _⟩
 have hn3:=hn64 rfl;have HR:=hid (show R=backsFrom askT 0 (l.take 0) (l.drop 0) from by rw [HV.out,if_neg (by decide)]);clear HV hn64;go_enter Tryz.func157,Tryz.ntmps157;go_wp2_with (go_at_call 92;(with_reducible refine(HW.out _).mono ?_);rintro e w6 ⟨rfl,hw6⟩;subst w6);go_loopg [22] (n+1) (fun gk s wr=>∃ i:Nat,i≤n∧gk=n-i+1∧s= .int .i64 (i:Int)∧R=backsFrom askT i (l.take i) (l.drop i)∧Below w.heap.size w wr)
 case atStart=>exact⟨0,by omega,rfl,rfl,HR.out,Below.refl _ _⟩
 case round=>
  clear HR;obtain⟨i,hi,rfl,rfl,hE,hb⟩:=hrel;have HE2:=hid hE;have HB:=hid hb;clear hE hb;by_cases hin:i<n
  case neg=>
   have hiN:i=n:=by omega
   subst hiN;have HR:=hid (show R= [] from by rw [HE2.out,show l.drop i= [] from by rw [List.drop_eq_nil_iff,HN.out];exact Nat.le_refl _];rfl);go_wp2;go_ret;exact⟨ret_str HR.out.symm,HB.out⟩
  have h1:i<l.length:=by rw [HN.out];exact hin
  obtain⟨x,hx⟩:∃ x,l[i]?=some x:=⟨_,List.getElem?_eq_getElem h1⟩;have HSt:=hid (backs_step2 l x i hx);have HOn:=hid (HOne.out i x hx wr HB.out);have HTx:=hid (fun (W:World) (hb:Below w.heap.size w W)=>ptext_any i (by omega) W (HE.out.next hb));have hnl:=numT_len i (by omega);have hfl:(backF askT l x i).length≤4096:=by unfold backF;split;decide;split <;> decide
  have HFive:=hid (str_five n_backends (numT i) (backF askT l x i) (by decide));obtain⟨at_,hat⟩:∃ t,backF askT l x i=t:=⟨_,rfl⟩;rw [hat] at HSt HOn hfl HFive;clear h1 hx hat;by_cases h0:at_= []
  · subst h0;have HR:=hid (show R=backsFrom askT (i+1) (l.take (i+1)) (l.drop (i+1)) from by rw [HE2.out,HSt.out,if_neg (by simp)]);clear HSt HE2 HFive hfl;go_wp2_with (go_at_call 158;(with_reducible refine HOn.out.mono ?_);rintro e w1 ⟨rfl,hw1⟩;have HB1:=hid (HB.out.trans (hw1.mono HB.out.size));clear hw1);go_roundg (n-(i+1)+1)
    case measure=>omega
    case rel=>exact⟨i+1,by omega,by omega,by go_num,HR.out,HB1.out⟩
  · have HR:=hid (show R=behindC (behindC n_backends (numT i)) at_ from by rw [HE2.out,HSt.out,if_pos h0]);clear HSt HE2;have f1:=ne_facts h0;have hz1:=str_size at_;have hz2:=str_size (numT i);obtain⟨S,hS⟩:∃ S,str at_=S:=⟨_,rfl⟩;obtain⟨S2,hS2⟩:∃ S,str (numT i)=S:=⟨_,rfl⟩;rw [hS] at f1 HOn hz1 HFive;rw [hS2] at hz2 HTx HFive;have f2:(S.toList== (⟨#[]⟩:ByteArray).toList)=false:=ne_list f1;have f3:S.toList.isEmpty=false:=ne_empty f1;have f4:(S.toList== [])=false:=by have h:=f2;rw [ByteArray.toList_eq,ByteArray.toList_eq] at h;rw [ByteArray.toList_eq];exact h
    have g1:S.size≤4096:=by omega
    have g2:S2.size≤21:=by omega
    clear hS hS2 h0 hz1 hz2 hfl hnl;go_wp2_with (first|(go_at_call 158;(with_reducible refine HOn.out.mono ?_);rintro e w1 ⟨rfl,hw1⟩;have HB1:=hid (HB.out.trans (hw1.mono HB.out.size));clear hw1)|(go_at_call 125;(with_reducible refine(HTx.out _ HB1.out).mono ?_);rintro e w7 ⟨rfl,hw7⟩;have HB7:=hid (HB1.out.trans (hw7.mono HB1.out.size));clear hw7));go_ret;exact⟨by rw [HR.out,←HFive.out];rfl,HB7.out⟩
end Go.Proofs.YtlmefgjhbohjlaaGreatDoor
