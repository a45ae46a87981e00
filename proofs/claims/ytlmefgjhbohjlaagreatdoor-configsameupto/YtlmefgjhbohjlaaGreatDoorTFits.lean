/- The program's host and port. -/
import Derived.Test.YtlmefgjhbohjlaaGreatDoorHHostP
import Derived.Test.YtlmefgjhbohjlaaGreatDoorVToks
namespace Go.Proofs.YtlmefgjhbohjlaaGreatDoor
set_option maxRecDepth 20000
set_option maxHeartbeats 8000000
open Go.RowKit
def hostZ (z:Int):Bool:=decide (z=45∨z=46∨z=95∨(97≤z∧z≤122)∨(65≤z∧z≤90)∨(48≤z∧z≤57))
theorem hostZ_B:∀ c:UInt8,hostZ (c.toNat:Int)=hostB c:=by
 intro c;have h:∀ n:Fin 256,hostZ ((UInt8.ofNat n.1).toNat:Int)=hostB (UInt8.ofNat n.1):=by decide+kernel
 have h2:=h ⟨c.toNat,c.toNat_lt⟩;simpa using h2
theorem hostbyte_any (z:Int) (h0:0≤z) (h1:z≤255) (w:World):Calls Tryz.prog 340 #[.int .u8 z] w fun e w'=>e= .returned (.bool (hostZ z))∧w'=w:=by
 have HD:=hid (show ∀ W:World,_ from fun W=>digit_any z W h0 h1);obtain⟨R,hR⟩:∃ R,hostZ z=R:=⟨_,rfl⟩;have HR:=hid hR;rw [hR];clear hR;by_cases e1:z=45
 · subst e1;have HT:=hid (show R=true from HR.out ▸ rfl);go_enter Tryz.func340,Tryz.ntmps340;go_wp2;go_ret;exact⟨(by rw [HT.out];rfl),rfl⟩
 by_cases e2:z=46
 · subst e2;have HT:=hid (show R=true from HR.out ▸ rfl);go_enter Tryz.func340,Tryz.ntmps340;go_wp2;go_ret;exact⟨(by rw [HT.out];rfl),rfl⟩
 by_cases e3:z=95
 · subst e3;have HT:=hid (show R=true from HR.out ▸ rfl);go_enter Tryz.func340,Tryz.ntmps340;go_wp2;go_ret;exact⟨(by rw [HT.out];rfl),rfl⟩
 by_cases a1:97≤z
 · by_cases a2:z≤122
   · have HT:=hid (show R=true from by rw [←HR.out];unfold hostZ;exact decide_eq_true (by omega));go_enter Tryz.func340,Tryz.ntmps340;go_wp2;go_ret;exact⟨(by rw [HT.out];rfl),rfl⟩
   · have HT:=hid (show R=false from by rw [←HR.out];unfold hostZ;exact decide_eq_false (by omega));have b1:65≤z:=by omega
     have b2:¬z≤90:=by omega
     have hd:digB z=false:=by unfold digB;exact decide_eq_false (by omega)
     rw [hd] at HD;go_enter Tryz.func340,Tryz.ntmps340;go_wp2_with (go_at_call 300;(with_reducible refine(HD.out _).mono ?_);rintro e w1 ⟨rfl,hw1⟩;subst w1);go_ret;exact⟨(by rw [HT.out];rfl),rfl⟩
 · by_cases b1:65≤z
   · by_cases b2:z≤90
     · have HT:=hid (show R=true from by rw [←HR.out];unfold hostZ;exact decide_eq_true (by omega));go_enter Tryz.func340,Tryz.ntmps340;go_wp2;go_ret;exact⟨(by rw [HT.out];rfl),rfl⟩
     · have HT:=hid (show R=false from by rw [←HR.out];unfold hostZ;exact decide_eq_false (by omega));have hd:digB z=false:=by unfold digB;exact decide_eq_false (by omega)
       rw [hd] at HD;go_enter Tryz.func340,Tryz.ntmps340;go_wp2_with (go_at_call 300;(with_reducible refine(HD.out _).mono ?_);rintro e w1 ⟨rfl,hw1⟩;subst w1);go_ret;exact⟨(by rw [HT.out];rfl),rfl⟩
   · obtain⟨D,hD⟩:∃ D,digB z=D:=⟨_,rfl⟩;have HT:=hid (show R=D from by rw [←HR.out,←hD];unfold hostZ digB;exact decide_eq_decide.2 (by omega));rw [hD] at HD;clear hD;go_enter Tryz.func340,Tryz.ntmps340;go_wp2_with (go_at_call 300;(with_reducible refine(HD.out _).mono ?_);rintro e w1 ⟨rfl,hw1⟩;subst w1);go_ret;exact⟨(by rw [HT.out];rfl),rfl⟩
theorem empty_str (s:B):(str s).toList.isEmpty=s.isEmpty:=by
 rw [empty_size,str_size];cases s <;> simp
theorem ishost_any (s:B) (hs:s.length≤1048576) (w:World):Calls Tryz.prog 303 #[.string (str s)] w fun e w'=>e= .returned (.bool (!s.isEmpty && s.all hostB))∧Below w.heap.size w w':=by
 obtain⟨R,hR⟩:∃ R,(!s.isEmpty && s.all hostB)=R:=⟨_,rfl⟩;have HR:=hid hR;rw [hR];clear hR;obtain⟨n,hn⟩:∃ n,s.length=n:=⟨_,rfl⟩;have hsz:(str s).size=n:=by rw [str_size,hn]
 have HN:=hid hn;rw [hn] at hs;have HAt:=hid (show ∀ (i:Nat) (c:UInt8) (h:i<(str s).size),s[i]?=some c→(str s)[i]=c from fun i c h e=>by
  have h2:(str s).data.toList[i]?=some c:=e;have h3:(str s).data[i]?=some c:=by simpa using h2
  obtain⟨h4,h5⟩:=Array.getElem?_eq_some_iff.1 h3;exact h5)
 have HE:=hid (show (str s).toList.isEmpty=s.isEmpty from empty_str s);obtain⟨S,hS⟩:∃ S,str s=S:=⟨_,rfl⟩;rw [hS] at hsz HAt HE;rw [hS];clear hn hS;go_enter Tryz.func303,Tryz.ntmps303;go_wp2;go_loopg [6] (n+1) (fun gk s6 wr=>∃ i:Nat,s6= .int .i64 (i:Int)∧i≤n∧gk=n-i+1∧Below w.heap.size w wr∧(s.take i).all hostB=true)
 case atStart=>exact⟨0,rfl,by omega,rfl,(by first|exact Below.refl _ _|exact(Below.refl _ _).drew),rfl⟩
 case round=>
  obtain⟨i,rfl,hin,rfl,hb,hh⟩:=hrel;have HB:=hid hb;have HH:=hid hh;clear hb hh;by_cases hlt:i<n
  · obtain⟨c,hc⟩:∃ c,s[i]?=some c:=⟨s[i]'(by rw [HN.out];exact hlt),List.getElem?_eq_getElem _⟩;have hltI:(i:Int)<(n:Int):=by omega
    have hltS:i<S.size:=by rw [hsz];exact hlt
    have hat:=HAt.out i c hltS hc;have hlt8:=c.toNat_lt;have HHb:=hid (show ∀ W:World,_ from fun W=>hostbyte_any (c.toNat:Int) (by omega) (by omega) W);rw [hostZ_B] at HHb;have HC:=hid hc;clear hc;cases hB:hostB c with
    |true=>
     rw [hB] at HHb;have HX:=hid (show (s.take (i+1)).all hostB=true from by rw [List.take_add_one,HC.out,List.all_append,HH.out];simp [hB]);go_wp2_with (go_at_call 340;(try rw [hat]);(with_reducible refine(HHb.out _).mono ?_);rintro e w1 ⟨rfl,hw1⟩;subst w1);go_roundg (n-(i+1)+1)
     case measure=>omega
     case rel=>exact⟨i+1,by go_num,by omega,rfl,(by first|exact HB.out|exact HB.out.drew),HX.out⟩
    |false=>
     rw [hB] at HHb;have HX:=hid (show R=false from by
      rw [←HR.out];have h9:s.all hostB=false:=by
       cases h8:s.all hostB with
       |false=>rfl
       |true=>have:=List.all_eq_true.1 h8 c (List.mem_of_getElem? HC.out);rw [hB] at this;cases this
      rw [h9,Bool.and_false])
     go_wp2_with (go_at_call 340;(try rw [hat]);(with_reducible refine(HHb.out _).mono ?_);rintro e w1 ⟨rfl,hw1⟩;subst w1)
     (try simp only [Exit.inBlock,Exit.then])
     go_ret;exact⟨(by rw [HX.out];rfl),(by first|exact HB.out|exact HB.out.drew)⟩
  · obtain rfl:i=n:=by omega
    have hltI:¬(i:Int)<(i:Int):=by omega
    have HX:=hid (show R= !s.isEmpty from by
     have h9:=HH.out;rw [List.take_of_length_le (by rw [HN.out];exact Nat.le_refl _)] at h9;rw [←HR.out,h9,Bool.and_true])
    clear hlt;go_wp2;go_ret;refine⟨?_,(by first|exact HB.out|exact HB.out.drew)⟩;rw [HX.out,←HE.out]
    first|rfl|simp
def okP (p:B):Bool:=decide (numE 10 65535 (str p)=0)
theorem isport_any (s:B) (hs:s.length≤1048576) (w:World):Calls Tryz.prog 304 #[.string (str s)] w fun e w'=>e= .returned (.bool (s.isEmpty || okP s))∧w'=w:=by
 have HD:=hid (show ∀ W:World,_ from fun W=>decimal_any (str s) 65535 W (Nat.le_trans (by rw [str_size];exact hs) (by decide)) (by decide) (by decide));obtain⟨x,hx⟩:∃ x,numN 10 65535 (str s)=x:=⟨_,rfl⟩;obtain⟨y,hy⟩:∃ y,numE 10 65535 (str s)=y:=⟨_,rfl⟩;have HO:=hid (show okP s=decide (y=0) from by unfold okP;rw [hy]);have hE:=empty_str s;rw [hx,hy] at HD;obtain⟨S,hS⟩:∃ S,str s=S:=⟨_,rfl⟩;rw [hS] at HD hE;rw [hS,HO.out];clear hx hy hS HO;cases hem:s.isEmpty with
 |true=>
  rw [hem] at hE;go_enter Tryz.func304,Tryz.ntmps304;go_wp2_with (go_at_call 341;(with_reducible refine(HD.out _).mono ?_);rintro e w1 ⟨rfl,hw1⟩;subst w1);go_ret;exact⟨rfl,rfl⟩
 |false=>
  rw [hem] at hE;by_cases hy:y=0
  · subst hy;rw [show errV 0= .nilIface from rfl] at HD;go_enter Tryz.func304,Tryz.ntmps304;go_wp2_with (go_at_call 341;(with_reducible refine(HD.out _).mono ?_);rintro e w1 ⟨rfl,hw1⟩;subst w1);go_ret;exact⟨rfl,rfl⟩
  · rw [show errV y= .iface 63 (.int .i64 y) from by unfold errV;rw [if_neg hy]] at HD;rw [show decide (y=0)=false from decide_eq_false hy];go_enter Tryz.func304,Tryz.ntmps304;go_wp2_with (go_at_call 341;(with_reducible refine(HD.out _).mono ?_);rintro e w1 ⟨rfl,hw1⟩;subst w1);go_ret;exact⟨rfl,rfl⟩
structure Cells4 (w:World) (g:Nat) (c0 c1 c2 c3:Value):Prop where
 a0:w.cell? ⟨g,0,none⟩=some c0
 a1:w.cell? ⟨g,1,none⟩=some c1
 a2:w.cell? ⟨g,2,none⟩=some c2
 a3:w.cell? ⟨g,3,none⟩=some c3
 z:∀ j,w.frozen? ⟨g,j,none⟩=false
theorem cells4 {w:World}{g:Nat}{c0 c1 c2 c3:Value}{T:TypeId} (h:w.heap[g]?=some (.cells #[c0,c1,c2,c3] T (0,0))):Cells4 w g c0 c1 c2 c3:=by
 refine⟨?_,?_,?_,?_,fun j=>by simp [World.frozen?,h]⟩ <;> simp [World.cell?,h]
theorem byte_missX (x:UInt8):∀ l:List UInt8,Lib.indexByte l x= -1→∀ y∈l,y≠x
 | [],_,y,hy=>by simp at hy
 |b::l,h,y,hy=>by
  unfold Lib.indexByte at h;split at h
  · simp at h
  · rename_i hb
    split at h
    · rename_i h2
      rcases List.mem_cons.1 hy with rfl|hy
      · simpa using hb
      · exact byte_missX x l (by simpa using h2) y hy
    · rename_i h2
      have:=Lib.indexByte_ge l x;simp at h2;omega
theorem byte_hitX (x:UInt8):∀ (l:List UInt8) (i:Nat),Lib.indexByte l x=i→(∀ y∈l.take i,y≠x)∧l=l.take i++x::l.drop (i+1)
 | [],i,h=>by simp [Lib.indexByte] at h
 |b::l,i,h=>by
  unfold Lib.indexByte at h;split at h
  · rename_i hb
    have hi:i=0:=by omega
    subst hi;have hb':b=x:=by simpa using hb
    subst hb';simp
  · rename_i hb
    split at h
    · omega
    · rename_i h2
      have:=Lib.indexByte_ge l x;simp at h2;obtain⟨j,rfl⟩:∃ j,i=j+1:=⟨i-1,by omega⟩;obtain⟨h3,h4⟩:=byte_hitX x l j (by omega);refine⟨?_,?_⟩
      · intro y hy;rw [List.take_succ_cons] at hy;rcases List.mem_cons.1 hy with rfl|hy
        · simpa using hb
        · exact h3 y hy
      · rw [List.take_succ_cons,List.drop_succ_cons,List.cons_append,←h4]
theorem cut_libX (x:UInt8) (s:B):Lib.cut s [x]=cutF x s:=by
 unfold Lib.cut;rw [Lib.index_one];have hge:=Lib.indexByte_ge s x;by_cases h:Lib.indexByte s x= -1
 · rw [h,if_neg (by decide),cutF_no s (byte_missX x s h)]
 · obtain⟨i,hi⟩:∃ i:Nat,Lib.indexByte s x=i:=⟨(Lib.indexByte s x).toNat,by omega⟩;obtain⟨h1,h2⟩:=byte_hitX x s i hi;rw [hi,if_pos (by omega)];conv=>rhs;rw [h2]
   rw [cutF_at _ _ h1];rfl
theorem eql_errsH (w:World) (a b:Int):(binOp .eql 28 (.iface 63 (.int .i64 a)) (.iface 63 (.int .i64 b))).run Tryz.prog w= .ok (.bool (a== b)) w:=by
 obtain⟨i,hi,hc⟩:∃ i,Tryz.prog.info? 63=some i∧i.comparable=true:=by
  have h:(Tryz.prog.info? 63).map (·.comparable)=some true:=by kernel_rfl
  cases e:Tryz.prog.info? 63 with
  |none=>rw [e] at h;cases h
  |some i=>rw [e] at h;exact⟨i,rfl,by simpa using h⟩
 have h:∀ d,(Op.equalIn (d+2) 28 (.iface 63 (.int .i64 a)) (.iface 63 (.int .i64 b))).run Tryz.prog w= .ok (a== b) w:=fun d=>by
  simp [Op.equalIn,run_underlying Tryz.underlying28,run_underlying Tryz.underlying63,typeInfo,hi,hc]
 simp only [binOp];simp [Op.equal,Op.maxDepth,h 9998]
theorem eql_noneH (w:World) (v:Value):(binOp .eql 28 .nilIface (.iface 63 v)).run Tryz.prog w= .ok (.bool false) w:=run_eql_iface_nil_left w 63 v Tryz.underlying28
theorem hcut_any (x:UInt8) (s:B) (hs:s.length≤4294967280) (w:World) (hmx:∃ m:Int,w.cell? ⟨3,0,none⟩=some (.int .i64 m)):Calls Tryz.prog 302 #[.string (str s),.string ⟨#[x]⟩] w fun e w'=>e= .returned (.tuple #[.string (str (cutF x s).1),.string (str (cutF x s).2.1),.bool (cutF x s).2.2])∧Below w.heap.size w w':=by
 obtain⟨m,hm⟩:=hmx;refine(Tryz.strings_Cut (str s) ⟨#[x]⟩ m w (by rw [str_size];omega) hm).mono ?_;rintro e w' ⟨rfl,q,rfl⟩;have e1:Lib.cut (str s).data.toList (⟨#[x]⟩:ByteArray).data.toList=cutF x s:=cut_libX x s;rw [e1];exact⟨rfl,below_drew (Below.refl _ _) q⟩
theorem cutF_take:∀ v:B,(cutF 58 v).1=v.takeWhile (fun c=>c != 58)∧(cutF 58 v).2.1=v.drop ((v.takeWhile (fun c=>c != 58)).length+1)
 | []=>⟨rfl,rfl⟩
 |c::l=>by
  obtain⟨h1,h2⟩:=cutF_take l;unfold cutF;by_cases h:c=58
  · subst h;simp
  · simp [h,h1,h2]
theorem cutF58_len (v:B):(cutF 58 v).1.length≤v.length∧(cutF 58 v).2.1.length≤v.length:=by
 obtain⟨h1,h2⟩:=cutF_take v;rw [h1,h2];refine⟨(List.takeWhile_prefix _).length_le,?_⟩;rw [List.length_drop];omega
theorem hostP_cut (ok:B→Bool) (v:B):hostP ok v=if (!(cutF 58 v).1.isEmpty && (cutF 58 v).1.all hostB)=true∧((cutF 58 v).2.1.isEmpty || ok (cutF 58 v).2.1)=true then some ((cutF 58 v).1,(cutF 58 v).2.1) else none:=by
 obtain⟨h1,h2⟩:=cutF_take v;unfold hostP;rw [h1,h2];dsimp only;congr 1;simp [and_assoc,List.isEmpty_iff]
def hostOut (k:Int) (O:ByteArray×Nat):B×B×Nat:=if O.2=8∧k=0 then ([],[],0) else if O.2≠0 then ([],[],O.2) else match hostP okP O.1.data.toList with|some (h,p)=>(h,p,0)|none=>([],[],3)
def hostName:ByteArray:=⟨#[72,111,115,116]⟩
theorem str_of (x:ByteArray):str x.data.toList=x:=by cases x;rfl
theorem phost (M T:ByteArray) (k:Int) (fs:List (B×B)) (p:Option Addr) (n c:Nat) (hn:fs.length=n) (w:World) (hF:FAt w p fs) (hsz:szB fs) (hnn:n≤1048576) (hmx:∃ m:Int,w.cell? ⟨3,0,none⟩=some (.int .i64 m)):
 Calls Tryz.prog 265 #[.agg #[.string M,.string T,.int .i64 k,.slice p n c]] w fun e w'=>e= .returned (.tuple #[.string (str (hostOut k (oneB (valsB fs hostName))).1),.string (str (hostOut k (oneB (valsB fs hostName))).2.1),errOf (hostOut k (oneB (valsB fs hostName))).2.2])∧Below w.heap.size w w':=by
 have HO:=hid (show ∀ W:World,Below w.heap.size w W→_ from fun W hb=>pone fs p n c hn hostName W (hF.next hb) hsz (by decide) hnn);have HZ:=hid (show ∀ x∈valsB fs hostName,x.size≤1048576 from fun x hx=>vals_small hsz hx);obtain⟨L,hL⟩:∃ L,valsB fs hostName=L:=⟨_,rfl⟩;rw [hL] at HO HZ;rw [hL];unfold hostName at HO;have r8:=fun W=>eql_errsH W 8 8
 have r6:=fun W=>eql_errsH W 6 8
 have r0:=fun W=>eql_noneH W (.int .i64 8)
 have HB0:=hid (below_new w (.cells #[.string M,.string T,.int .i64 k,.slice p n c] 321 (0,0)));have HX0:=hid (heap_alloc_new w (.cells #[.string M,.string T,.int .i64 k,.slice p n c] 321 (0,0)));have HM:=hid hmx;clear hL hF hsz hn hmx;rcases L with _|⟨x,_|⟨y,rr⟩⟩
 · rw [show oneB []=(⟨#[]⟩,8) from rfl] at HO;rw [show oneB []=(⟨#[]⟩,8) from rfl];dsimp only at HO;rw [show errOf 8= .iface 63 (.int .i64 8) from rfl] at HO;by_cases hk:k=0
   · subst hk;rw [show hostOut 0 (⟨#[]⟩,8)=([],[],0) from rfl];go_enter Tryz.func265,Tryz.ntmps265;go_wp2_with ((go_at_call 301;(with_reducible refine(HO.out _ HB0.out).mono ?_);rintro e w1 ⟨rfl,hb⟩;have HB1:=hid (below_out HB0.out hb);obtain⟨y0,y1,y2,y3,_⟩:=cells4 (kB hb HX0.out);clear hb HO));go_ret3;exact⟨rfl,HB1.out⟩
   · rw [show hostOut k (⟨#[]⟩,8)=([],[],8) from by unfold hostOut;rw [if_neg (fun h=>hk h.2)];rfl];have hk2:(k== 0)=false:=by simpa using hk
     go_enter Tryz.func265,Tryz.ntmps265;go_wp2_with ((go_at_call 301;(with_reducible refine(HO.out _ HB0.out).mono ?_);rintro e w1 ⟨rfl,hb⟩;have HB1:=hid (below_out HB0.out hb);obtain⟨y0,y1,y2,y3,_⟩:=cells4 (kB hb HX0.out);clear hb HO));go_ret3;exact⟨rfl,HB1.out⟩
 · rw [show oneB [x]=(x,0) from rfl] at HO;rw [show oneB [x]=(x,0) from rfl];dsimp only at HO;rw [show errOf 0= .nilIface from rfl] at HO;have hxs:=HZ.out x (by simp);have h99:x.data.toList.length≤4294967280:=by
    have h9:x.data.toList.length=x.size:=by simp
    omega
   have HCu:=hid (show ∀ W:World,Below w.heap.size w W→_ from fun W hb=>hcut_any 58 x.data.toList h99 W ⟨HM.out.choose,cell_keep hb HM.out.choose_spec⟩);rw [str_of] at HCu;obtain⟨hl1,hl2⟩:=cutF58_len x.data.toList;have h9:x.data.toList.length=x.size:=by simp
   rw [h9] at hl1 hl2;have HHo:=hid (show ∀ W:World,_ from fun W=>ishost_any (cutF 58 x.data.toList).1 (by omega) W);have HPo:=hid (show ∀ W:World,_ from fun W=>isport_any (cutF 58 x.data.toList).2.1 (by omega) W);have HR:=hid (show hostOut k (x,0)=if (!(cutF 58 x.data.toList).1.isEmpty && (cutF 58 x.data.toList).1.all hostB)=true∧((cutF 58 x.data.toList).2.1.isEmpty || okP (cutF 58 x.data.toList).2.1)=true then ((cutF 58 x.data.toList).1,(cutF 58 x.data.toList).2.1,0) else ([],[],3) from by
    unfold hostOut;rw [if_neg (fun h=>by cases h.1),if_neg (by simp)];show (match hostP okP x.data.toList with|some (h,p)=>(h,p,0)|none=>([],[],3))=_;rw [hostP_cut];by_cases hc:(!(cutF 58 x.data.toList).1.isEmpty && (cutF 58 x.data.toList).1.all hostB)=true∧((cutF 58 x.data.toList).2.1.isEmpty || okP (cutF 58 x.data.toList).2.1)=true
    · rw [if_pos hc,if_pos hc]
    · rw [if_neg hc,if_neg hc])
   rw [HR.out];clear HR hl1 hl2 h9;obtain⟨⟨a,b,t⟩,hab⟩:∃ q,cutF 58 x.data.toList=q:=⟨_,rfl⟩;rw [hab] at HCu HHo HPo;rw [hab];dsimp only at HCu HHo HPo;dsimp only;obtain⟨bh,hbh⟩:∃ bh,(!a.isEmpty && a.all hostB)=bh:=⟨_,rfl⟩;obtain⟨bp,hbp⟩:∃ bp,(b.isEmpty || okP b)=bp:=⟨_,rfl⟩;rw [hbh] at HHo;rw [hbp] at HPo;rw [hbh,hbp];obtain⟨SA,hSA⟩:∃ S,str a=S:=⟨_,rfl⟩;obtain⟨SB,hSB⟩:∃ S,str b=S:=⟨_,rfl⟩;rw [hSA] at HCu HHo;rw [hSB] at HCu HPo;have HSA:=hid hSA;have HSB:=hid hSB;clear hab hbh hbp hSA hSB;cases bh with
   |false=>
    rw [if_neg (fun h=>by cases h.1)];go_enter Tryz.func265,Tryz.ntmps265;go_wp2_with (first|(go_at_call 301;(with_reducible refine(HO.out _ HB0.out).mono ?_);rintro e w1 ⟨rfl,hb⟩;have HB1:=hid (below_out HB0.out hb);obtain⟨y0,y1,y2,y3,_⟩:=cells4 (kB hb HX0.out);clear hb HO)|(go_at_call 302;(with_reducible refine(HCu.out _ HB1.out).mono ?_);rintro e w2 ⟨rfl,hb⟩;have HB2:=hid (below_out HB1.out hb);clear hb HCu)|(go_at_call 303;(with_reducible refine(HHo.out _).mono ?_);rintro e w3 ⟨rfl,hb⟩;have HB3:=hid (below_out HB2.out hb);clear hb HHo));go_ret3;exact⟨rfl,HB3.out⟩
   |true=>
    cases bp with
    |false=>
     rw [if_neg (fun h=>by cases h.2)];go_enter Tryz.func265,Tryz.ntmps265;go_wp2_with (first|(go_at_call 301;(with_reducible refine(HO.out _ HB0.out).mono ?_);rintro e w1 ⟨rfl,hb⟩;have HB1:=hid (below_out HB0.out hb);obtain⟨y0,y1,y2,y3,_⟩:=cells4 (kB hb HX0.out);clear hb HO)|(go_at_call 302;(with_reducible refine(HCu.out _ HB1.out).mono ?_);rintro e w2 ⟨rfl,hb⟩;have HB2:=hid (below_out HB1.out hb);clear hb HCu)|(go_at_call 303;(with_reducible refine(HHo.out _).mono ?_);rintro e w3 ⟨rfl,hb⟩;have HB3:=hid (below_out HB2.out hb);clear hb HHo)|(go_at_call 304;(with_reducible refine(HPo.out _).mono ?_);rintro e w4 ⟨rfl,hw4⟩;subst w4;clear HPo));go_ret3;exact⟨rfl,HB3.out⟩
    |true=>
     rw [if_pos ⟨rfl,rfl⟩];dsimp only;rw [HSA.out,HSB.out];go_enter Tryz.func265,Tryz.ntmps265;go_wp2_with (first|(go_at_call 301;(with_reducible refine(HO.out _ HB0.out).mono ?_);rintro e w1 ⟨rfl,hb⟩;have HB1:=hid (below_out HB0.out hb);obtain⟨y0,y1,y2,y3,_⟩:=cells4 (kB hb HX0.out);clear hb HO)|(go_at_call 302;(with_reducible refine(HCu.out _ HB1.out).mono ?_);rintro e w2 ⟨rfl,hb⟩;have HB2:=hid (below_out HB1.out hb);clear hb HCu)|(go_at_call 303;(with_reducible refine(HHo.out _).mono ?_);rintro e w3 ⟨rfl,hb⟩;have HB3:=hid (below_out HB2.out hb);clear hb HHo)|(go_at_call 304;(with_reducible refine(HPo.out _).mono ?_);rintro e w4 ⟨rfl,hw4⟩;subst w4;clear HPo));go_ret3;exact⟨rfl,HB3.out⟩
 · rw [show oneB (x::y::rr)=(⟨#[]⟩,6) from rfl] at HO;rw [show oneB (x::y::rr)=(⟨#[]⟩,6) from rfl];dsimp only at HO;rw [show errOf 6= .iface 63 (.int .i64 6) from rfl] at HO;rw [show hostOut k (⟨#[]⟩,6)=([],[],6) from by unfold hostOut;rw [if_neg (fun h=>by cases h.1)];rfl];go_enter Tryz.func265,Tryz.ntmps265;go_wp2_with ((go_at_call 301;(with_reducible refine(HO.out _ HB0.out).mono ?_);rintro e w1 ⟨rfl,hb⟩;have HB1:=hid (below_out HB0.out hb);obtain⟨y0,y1,y2,y3,_⟩:=cells4 (kB hb HX0.out);clear hb HO));go_ret3;exact⟨rfl,HB1.out⟩
def MxAt (w:World):Prop:=∃ m:Int,w.cell? ⟨3,0,none⟩=some (.int .i64 m)
theorem MxAt.next {w w':World} (h:MxAt w) (hb:Below w.heap.size w w'):MxAt w':=by
 obtain⟨m,h⟩:=h;exact⟨m,cell_keep hb h⟩
theorem split_cutH:∀ (n:Nat) (s:ByteArray),Lib.countB s ⟨#[46]⟩=n→(Lib.splitB ⟨#[46]⟩ 0 n s).map (fun p=>p.data.toList)=cutH s.data.toList
 |n,s,h=>by
  have hx:Lib.indexB s ⟨#[46]⟩=Lib.indexByte s.data.toList 46:=Lib.index_one s.data.toList 46;by_cases hm:Lib.indexB s ⟨#[46]⟩= -1
  · rw [Lib.splitB_miss _ _ _ _ hm];rw [hx] at hm;rw [cutH_only _ (fun h1=>byte_missX 46 _ hm 46 h1 rfl)];rfl
  · have hge:=Lib.indexByte_ge s.data.toList 46;obtain⟨i,hi⟩:∃ i:Nat,Lib.indexB s ⟨#[46]⟩=i:=⟨(Lib.indexB s ⟨#[46]⟩).toNat,by omega⟩;have hc:=Lib.countB_hit s ⟨#[46]⟩ i (Nat.le_refl 1) hi;obtain⟨m,rfl⟩:∃ m,n=m+1:=⟨n-1,by omega⟩;rw [Lib.splitB_hit _ _ _ _ _ hi];have hrec:=split_cutH m (s.extract (i+(⟨#[46]⟩:ByteArray).size) s.size) (by omega);rw [List.map_cons,hrec];rw [hx] at hi;obtain⟨h1,h2⟩:=byte_hitX 46 _ _ hi;have e:=cutH_app (s.data.toList.take i) (s.data.toList.drop (i+1)) (fun h3=>h1 46 h3 rfl);rw [←h2] at e;rw [e];have e1:(s.extract 0 (i+0)).data.toList=s.data.toList.take i:=by simp
    have e2:(s.extract (i+(⟨#[46]⟩:ByteArray).size) s.size).data.toList=s.data.toList.drop (i+1):=by
     rw [show (⟨#[46]⟩:ByteArray).size=1 from rfl];simp;rw [List.take_of_length_le (by simp)]
    rw [e1,e2]
theorem psplitH (s:B) (hs:s.length≤4294967280) (w:World) (hmx:MxAt w):Calls Tryz.prog 254 #[.string (str s),.string ⟨#[46]⟩] w fun e w'=>∃ p c,e= .returned (.slice p (cutH s).length c)∧OwnS w' w.heap.size (.slice p (cutH s).length c) (cutH s)∧Below w.heap.size w w':=by
 obtain⟨m,hm⟩:=hmx;refine(Tryz.strings_Split (str s) ⟨#[46]⟩ m w (by rw [str_size];omega) hm (Nat.le_refl 1)).mono ?_;rintro e w' ⟨rfl,rfl⟩;have hcut:=split_cutH _ (str s) rfl;rw [show (str s).data.toList=s by simp] at hcut;have hlen:(Lib.splitB ⟨#[46]⟩ 0 (Lib.countB (str s) ⟨#[46]⟩) (str s)).length=Lib.countB (str s) ⟨#[46]⟩+1:=Lib.splitB_all ⟨#[46]⟩ (Nat.le_refl 1) 0 _ (str s) rfl;have hl2:(cutH s).length=Lib.countB (str s) ⟨#[46]⟩+1:=by rw [←hlen,←hcut,List.length_map]
 have hle:=Lib.countB_le ⟨#[46]⟩ (Nat.le_refl 1) _ (str s) (Nat.le_refl _);rw [str_size] at hle;have hcells:(Lib.splitB ⟨#[46]⟩ 0 (Lib.countB (str s) ⟨#[46]⟩) (str s)).map Value.string=strC (cutH s):=by
  rw [←hcut];unfold strC;rw [List.map_map];rfl
 refine⟨some ⟨w.heap.size,0,none⟩,Lib.countB (str s) ⟨#[46]⟩+1,by rw [hl2],?_,below_new _ _⟩;refine⟨by simp [strC],.inr ⟨w.heap.size,Lib.countB (str s) ⟨#[46]⟩+1,_,rfl,Nat.le_refl _,heap_alloc_new w _,by omega,by unfold maxLen;omega,by simp [hlen],?_⟩⟩;rw [hcells];exact List.take_of_length_le (by simp [strC])
theorem split_cutT:∀ (n:Nat) (s:ByteArray),Lib.countB s ⟨#[47]⟩=n→(Lib.splitB ⟨#[47]⟩ 0 n s).map (fun p=>p.data.toList)=cutT s.data.toList
 |n,s,h=>by
  have hx:Lib.indexB s ⟨#[47]⟩=Lib.indexByte s.data.toList 47:=Lib.index_one s.data.toList 47;by_cases hm:Lib.indexB s ⟨#[47]⟩= -1
  · rw [Lib.splitB_miss _ _ _ _ hm];rw [hx] at hm;rw [cutT_only _ (fun h1=>byte_missX 47 _ hm 47 h1 rfl)];rfl
  · have hge:=Lib.indexByte_ge s.data.toList 47;obtain⟨i,hi⟩:∃ i:Nat,Lib.indexB s ⟨#[47]⟩=i:=⟨(Lib.indexB s ⟨#[47]⟩).toNat,by omega⟩;have hc:=Lib.countB_hit s ⟨#[47]⟩ i (Nat.le_refl 1) hi;obtain⟨m,rfl⟩:∃ m,n=m+1:=⟨n-1,by omega⟩;rw [Lib.splitB_hit _ _ _ _ _ hi];have hrec:=split_cutT m (s.extract (i+(⟨#[47]⟩:ByteArray).size) s.size) (by omega);rw [List.map_cons,hrec];rw [hx] at hi;obtain⟨h1,h2⟩:=byte_hitX 47 _ _ hi;have e:=cutT_app (s.data.toList.take i) (s.data.toList.drop (i+1)) (fun h3=>h1 47 h3 rfl);rw [←h2] at e;rw [e];have e1:(s.extract 0 (i+0)).data.toList=s.data.toList.take i:=by simp
    have e2:(s.extract (i+(⟨#[47]⟩:ByteArray).size) s.size).data.toList=s.data.toList.drop (i+1):=by
     rw [show (⟨#[47]⟩:ByteArray).size=1 from rfl];simp;rw [List.take_of_length_le (by simp)]
    rw [e1,e2]
theorem psplitT (s:B) (hs:s.length≤4294967280) (w:World) (hmx:MxAt w):Calls Tryz.prog 254 #[.string (str s),.string ⟨#[47]⟩] w fun e w'=>∃ p c,e= .returned (.slice p (cutT s).length c)∧OwnS w' w.heap.size (.slice p (cutT s).length c) (cutT s)∧Below w.heap.size w w':=by
 obtain⟨m,hm⟩:=hmx;refine(Tryz.strings_Split (str s) ⟨#[47]⟩ m w (by rw [str_size];omega) hm (Nat.le_refl 1)).mono ?_;rintro e w' ⟨rfl,rfl⟩;have hcut:=split_cutT _ (str s) rfl;rw [show (str s).data.toList=s by simp] at hcut;have hlen:(Lib.splitB ⟨#[47]⟩ 0 (Lib.countB (str s) ⟨#[47]⟩) (str s)).length=Lib.countB (str s) ⟨#[47]⟩+1:=Lib.splitB_all ⟨#[47]⟩ (Nat.le_refl 1) 0 _ (str s) rfl;have hl2:(cutT s).length=Lib.countB (str s) ⟨#[47]⟩+1:=by rw [←hlen,←hcut,List.length_map]
 have hle:=Lib.countB_le ⟨#[47]⟩ (Nat.le_refl 1) _ (str s) (Nat.le_refl _);rw [str_size] at hle;have hcells:(Lib.splitB ⟨#[47]⟩ 0 (Lib.countB (str s) ⟨#[47]⟩) (str s)).map Value.string=strC (cutT s):=by
  rw [←hcut];unfold strC;rw [List.map_map];rfl
 refine⟨some ⟨w.heap.size,0,none⟩,Lib.countB (str s) ⟨#[47]⟩+1,by rw [hl2],?_,below_new _ _⟩;refine⟨by simp [strC],.inr ⟨w.heap.size,Lib.countB (str s) ⟨#[47]⟩+1,_,rfl,Nat.le_refl _,heap_alloc_new w _,by omega,by unfold maxLen;omega,by simp [hlen],?_⟩⟩;rw [hcells];exact List.take_of_length_le (by simp [strC])
def segF (x:B):List Value:=[.int .i64 (kindT x:Int),.string (str (segX x))]
abbrev OwnG:=OwnR 329 2 segF
theorem infoG:(Tryz.prog.info? 329).map (fun i=>(i.zero,i.size,i.bytes))=some (some (.agg #[.int .i64 0,.string ⟨#[]⟩]),2,24):=by kernel_rfl
theorem cutT_mem_len {t x:B} (h:x∈cutT t):x.length≤t.length:=by
 have:=joinT_mem h
 rwa [joinT_cut] at this
theorem drop_at {l:List B}{i:Nat}{a:B} (h:l[i]?=some a):l.drop i=a::l.drop (i+1):=by
 obtain⟨h1,e1⟩:=List.getElem?_eq_some_iff.1 h;rw [List.drop_eq_getElem_cons h1,e1]
end Go.Proofs.YtlmefgjhbohjlaaGreatDoor
